import Derived.Test.YtdlanihbpbfbcaaDoorQh
/- All records that bytes begin with, of the document. -/
namespace Go.Proofs.YtdlanihbpbfbcaaDoor
open Go.RowKit Go.Sort
set_option linter.unusedVariables false
set_option maxRecDepth 100000
theorem gb_drop (s : Tx) (p j : Nat) : gb (s.drop p) j = gb s (p + j) := by
  unfold gb
  rw [List.getD_eq_getElem?_getD, List.getElem?_drop, List.getD_eq_getElem?_getD]
theorem num4_drop (s : Tx) (p : Nat) : num4 (s.drop p) = ((gb s p * 256 + gb s (p + 1)) * 256 + gb s (p + 2)) * 256 + gb s (p + 3) := by
  unfold num4
  rw [gb_drop, gb_drop, gb_drop, gb_drop, Nat.add_zero]
theorem rd_sl {s x : Tx} {p : Nat} (h : rd1 (s.drop p) = some x) : (s.take (p + 8 + x.length)).drop (p + 8) = x ∧ (s.take (p + 8 + x.length)).drop p = fr x ∧ num4 (s.drop p) = x.length ∧ p + 8 + x.length ≤ s.length ∧ x.length ≤ 65536 := by
  obtain ⟨h1, h2, h3⟩ := rd1_spec h
  rw [List.length_drop] at h3
  have hf := fr_len h2
  have e : (s.take (p + 8 + x.length)).drop p = fr x := by
    rw [List.drop_take, h1, show p + 8 + x.length - p = (fr x).length by omega, List.take_left]
  refine ⟨?_, e, ?_, by omega, h2⟩
  · rw [← List.drop_drop, e, fr_drop h2]
  · have := num4_fr h2 ((s.drop p).drop (8 + x.length))
    rwa [← h1] at this
abbrev aN {T : World → Prop} (x y z : Nat) (h : x + y = z) (hz : z < 1000000000000) : Fa Tryd.prog T := bO .add 3 (run_addZ (x := x) (y := y) (z := z) (by rw [wz (by omega) (by omega)]; omega))
abbrev sN {T : World → Prop} (x y z : Nat) (h : y + z = x) (hz : x < 1000000000000) : Fa Tryd.prog T := bO .sub 3 (run_subZ (x := x) (y := y) (z := z) (by rw [wz (by omega) (by omega)]; omega))
abbrev gN {T : World → Prop} (x y : Nat) (b : Bool) (h : decide (y < x) = b) : Fa Tryd.prog T := bO .gtr 3 (run_gtrZ (x := x) (y := y) (b := b) (by rw [← h]; exact decide_eq_decide.2 (by omega)))
theorem ix_at (s : Tx) {i : Nat} (h : i < s.length) (w : World) : (Instr.index 9 (str s) (Z i)).run Tryd.prog w = .ok (.int .u8 (gb s i)) w := by
  obtain ⟨b, e, f⟩ := gb_get h
  exact f ▸ idx_run (k := i) e w
abbrev rgK9 : List Nat := [0, 2, 3, 4, 5]
abbrev rgV9 (s : Tx) (v : Value) (p : Nat) : Vs := frm 77 [(0, Sum.inl (str s)), (2, Sum.inl (.slice none 0 0)), (3, Sum.inl (Z 0)), (4, Sum.inl v), (5, Sum.inl (Z p))]
set_option maxHeartbeats 1000000 in
theorem rframes_any (s : Tx) (hs : s.length < 100000000) (w : World) : Calls Tryd.prog 9 #[str s] w fun e w' => ∃ v, e = .returned (.tuple #[v, Z (pos (rdA s) (rdA s).length)]) ∧ NW w [txF v (rdA s)] w' := by
  have hN : (rdA s).length ≤ s.length := by
    have := rd_at s _ (Nat.le_refl _)
    omega
  have hat := rd_at s
  generalize rdA s = l at *
  refine inQ (J := GS w w w.heap.size noK (· < w.heap.size) [] []) (F := GF noK (· < w.heap.size) []) Tryd.func9 (GS.start w fun f hf => by cases hf) fun a I => ?_
  refine goQ [] (GS.rsr _ _ _ _ _ _ _) (I.nil 9 1) fun β1 a1 w1 I hb1 => ?_
  let O : Nat → Option Addr → Nat → List Ow := fun i ad cap => [txO (.slice ad i cap) (l.take i)]
  let St : Nat → Act → World → Prop := fun k a w' => ∃ (i : Nat) (ad : Option Addr) (cap : Nat) (β : Nat → Nat) (u : Nat → Value), k = l.length - i ∧ i ≤ l.length ∧ SI (GS w w w.heap.size noK (· < w.heap.size) [] (O i ad cap)) (GF noK (· < w.heap.size) (O i ad cap)) [] β (cfC (bodyL Tryd.f9) (fillF (scrF 77 rgK9) u 0 (rgV9 s (.slice ad i cap) (pos l i))) [] 0) a w'
  refine lpM (bodyL Tryd.f9) St l.length ?_ ?_
  · obtain ⟨u, Iu⟩ := I.scr (bodyL Tryd.f9) (scrF 77 rgK9) (rgV9 s (.slice none 0 0) 0) [] 0
    exact ⟨0, none, 0, β1, u, by omega, Nat.zero_le _, by rw [pos_zero]; exact Iu⟩
  rintro k a3 w3 ⟨i, ad, cap, β3, u, rfl, hi, I⟩
  refine wp_cfC (tm := fillF (scrF 77 rgK9) u 0 (rgV9 s (.slice ad i cap) (pos l i))) (rows := []) (nx := 0) ?_
  obtain ⟨e1, e2, e3⟩ := hat i hi
  have R := GS.rsr w w w.heap.size noK (· < w.heap.size) [] (O i ad cap)
  have hnum := num4_drop s (pos l i)
  rcases Nat.lt_or_ge i l.length with hil | hil
  · obtain ⟨x, hx⟩ : ∃ t, l[i]? = some t := ⟨_, List.getElem?_eq_getElem hil⟩
    rw [hx] at e1
    have hst := pos_step hx
    have htk := take_get hx
    obtain ⟨r1, r2, r3, r4, r5⟩ := rd_sl e1
    rw [r3] at hnum
    obtain ⟨p', hp'⟩ : ∃ z, pos l (i + 1) = z := ⟨_, rfl⟩
    rw [hp'] at hst
    generalize pos l i = p at *
    have g0 := gb_lt s p
    have g1 := gb_lt s (p + 1)
    have g2 := gb_lt s (p + 2)
    have g3 := gb_lt s (p + 3)
    have i0 := ix_at s (i := p) (by omega)
    have i1 := ix_at s (i := p + 1) (by omega)
    have i2 := ix_at s (i := p + 2) (by omega)
    have i3 := ix_at s (i := p + 3) (by omega)
    generalize gb s p = x0 at *
    generalize gb s (p + 1) = x1 at *
    generalize gb s (p + 2) = x2 at *
    generalize gb s (p + 3) = x3 at *
    have hsl := fun w => both_run (l := s) (i := p + 8) (j := p + 8 + x.length) (by omega) (by omega) w
    rw [r1] at hsl
    have hsl2 := fun w => both_run (l := s) (i := p) (j := p + 8 + x.length) (by omega) (by omega) w
    rw [r2] at hsl2
    have hfr := rframe_any x
    clear r1 r2 e1 r3
    generalize fr x = f at *
    refine goQ [lnO s, sN s.length p (s.length - p) (by omega) (by omega), bO .geq 3 (run_geqZ (x := (s.length - p : Nat)) (y := 8) (b := true) (decide_eq_true (by omega)))] R I fun β4 a4 w4 I hb4 => ?_
    refine dwQ 26 [iO 9 i0, vO 5 3 (cnv8Z x0 g0), bO .shl 3 (shlU (n := x0) (k := 24) (m := x0 * 16777216) (by decide) rfl (by omega)), aN p 1 (p + 1) rfl (by omega), iO 9 i1, vO 5 3 (cnv8Z x1 g1), bO .shl 3 (shlU (n := x1) (k := 16) (m := x1 * 65536) (by decide) rfl (by omega)), bO .or 3 (orZ 24 (x := x0 * 16777216) (b := x1 * 65536) (m := x0 * 16777216 + x1 * 65536) (by omega) rfl (by omega) (by omega)), aN p 2 (p + 2) rfl (by omega), iO 9 i2, vO 5 3 (cnv8Z x2 g2), bO .shl 3 (shlU (n := x2) (k := 8) (m := x2 * 256) (by decide) rfl (by omega)), bO .or 3 (orZ 16 (x := x0 * 16777216 + x1 * 65536) (b := x2 * 256) (m := x0 * 16777216 + x1 * 65536 + x2 * 256) (by omega) rfl (by omega) (by omega)), aN p 3 (p + 3) rfl (by omega), iO 9 i3, vO 5 3 (cnv8Z x3 g3), bO .or 3 (orZ 8 (x := x0 * 16777216 + x1 * 65536 + x2 * 256) (b := x3) (m := x.length) (by omega) (by omega) g3 (by omega))] R (PanOk.then (PanOk.qk PanOk.post)) I fun a5 w5 I => ?_
    refine goQ [gN x.length 65536 false (decide_eq_false (by omega)), lnO s, sN s.length p (s.length - p) (by omega) (by omega), sN (s.length - p) 8 (s.length - p - 8) (by omega) (by omega), gN x.length (s.length - p - 8) false (decide_eq_false (by omega)), aN p 8 (p + 8) rfl (by omega), aN p 8 (p + 8) rfl (by omega), aN (p + 8) x.length (p + 8 + x.length) rfl (by omega), sLH 9 hsl] R I fun β6 a6 w6 I hb6 => ?_
    refine dwQ 10 [kC Tryd.func11 hfr, aN p 8 (p + 8) rfl (by omega), aN (p + 8) x.length (p + 8 + x.length) rfl (by omega), sLH 9 hsl2, bO .neq 9 (neqX_run (a := f) (b := f) (q := false) (decide_eq_false (fun h => h rfl)))] R (PanOk.then (PanOk.qk PanOk.post)) I fun a7 w7 I => ?_
    refine goQ [] R I fun β8 a8 w8 I hb8 => ?_
    refine app_tx [] [] x htk I (by rw [List.length_take]; omega) (by omega) fun ad9 cap9 a9 w9 I9 => ?_
    refine goQ [aN p 8 (p + 8) rfl (by omega), aN (p + 8) x.length p' (by omega) (by omega)] (GS.rsr _ _ _ _ _ _ _) I9 fun β10 a10 w10 I hb10 => ?_
    obtain ⟨u', Iu⟩ := I.scr (bodyL Tryd.f9) (scrF 77 rgK9) (rgV9 s (.slice ad9 (i + 1) cap9) p') [] 0
    exact endL ⟨l.length - (i + 1), by omega, i + 1, ad9, cap9, β10, u', rfl, hil, by rw [hp']; exact Iu⟩
  · obtain rfl : i = l.length := by omega
    rw [List.getElem?_eq_none (Nat.le_refl _)] at e1
    have fin : ∀ {w' : World}, GS w w w.heap.size noK (· < w.heap.size) [] (O l.length ad cap) w' → NW w [txF (.slice ad l.length cap) l] w' := fun {w'} h => by
      have h2 := h.newT
      rwa [List.take_length] at h2
    generalize pos l l.length = p at *
    by_cases h8 : s.length - p < 8
    · refine goQ [lnO s, sN s.length p (s.length - p) (by omega) (by omega), bO .geq 3 (run_geqZ (x := (s.length - p : Nat)) (y := 8) (b := false) (decide_eq_false (by omega)))] R I fun β4 a4 w4 I hb4 => ?_
      refine endE 0 ?_
      refine goQ [] R (I.exit _) fun β5 a5 w5 I hb5 => ?_
      exact outQ (v := .tuple #[.slice ad l.length cap, Z p]) I ⟨_, rfl, fin I.hJ⟩
    unfold rd1 at e1
    rw [List.length_drop, if_neg h8] at e1
    obtain ⟨n, hn⟩ : ∃ n, num4 (s.drop p) = n := ⟨_, rfl⟩
    rw [hn] at e1 hnum
    have g0 := gb_lt s p
    have g1 := gb_lt s (p + 1)
    have g2 := gb_lt s (p + 2)
    have g3 := gb_lt s (p + 3)
    have i0 := ix_at s (i := p) (by omega)
    have i1 := ix_at s (i := p + 1) (by omega)
    have i2 := ix_at s (i := p + 2) (by omega)
    have i3 := ix_at s (i := p + 3) (by omega)
    generalize gb s p = x0 at *
    generalize gb s (p + 1) = x1 at *
    generalize gb s (p + 2) = x2 at *
    generalize gb s (p + 3) = x3 at *
    have hlt : n < 4294967296 := by omega
    by_cases h2 : 65536 < n
    · refine goQ [lnO s, sN s.length p (s.length - p) (by omega) (by omega), bO .geq 3 (run_geqZ (x := (s.length - p : Nat)) (y := 8) (b := true) (decide_eq_true (by omega)))] R I fun β4 a4 w4 I hb4 => ?_
      refine dwQ 26 [iO 9 i0, vO 5 3 (cnv8Z x0 g0), bO .shl 3 (shlU (n := x0) (k := 24) (m := x0 * 16777216) (by decide) rfl (by omega)), aN p 1 (p + 1) rfl (by omega), iO 9 i1, vO 5 3 (cnv8Z x1 g1), bO .shl 3 (shlU (n := x1) (k := 16) (m := x1 * 65536) (by decide) rfl (by omega)), bO .or 3 (orZ 24 (x := x0 * 16777216) (b := x1 * 65536) (m := x0 * 16777216 + x1 * 65536) (by omega) rfl (by omega) (by omega)), aN p 2 (p + 2) rfl (by omega), iO 9 i2, vO 5 3 (cnv8Z x2 g2), bO .shl 3 (shlU (n := x2) (k := 8) (m := x2 * 256) (by decide) rfl (by omega)), bO .or 3 (orZ 16 (x := x0 * 16777216 + x1 * 65536) (b := x2 * 256) (m := x0 * 16777216 + x1 * 65536 + x2 * 256) (by omega) rfl (by omega) (by omega)), aN p 3 (p + 3) rfl (by omega), iO 9 i3, vO 5 3 (cnv8Z x3 g3), bO .or 3 (orZ 8 (x := x0 * 16777216 + x1 * 65536 + x2 * 256) (b := x3) (m := n) (by omega) (by omega) g3 (by omega))] R (PanOk.then (PanOk.qk PanOk.post)) I fun a5 w5 I => ?_
      refine goQ [gN n 65536 true (decide_eq_true h2)] R I fun β6 a6 w6 I hb6 => ?_
      refine endE 0 ?_
      refine goQ [] R (I.exit _) fun β5 a5 w5 I hb5 => ?_
      exact outQ (v := .tuple #[.slice ad l.length cap, Z p]) I ⟨_, rfl, fin I.hJ⟩
    by_cases h3 : s.length - p - 8 < n
    · refine goQ [lnO s, sN s.length p (s.length - p) (by omega) (by omega), bO .geq 3 (run_geqZ (x := (s.length - p : Nat)) (y := 8) (b := true) (decide_eq_true (by omega)))] R I fun β4 a4 w4 I hb4 => ?_
      refine dwQ 26 [iO 9 i0, vO 5 3 (cnv8Z x0 g0), bO .shl 3 (shlU (n := x0) (k := 24) (m := x0 * 16777216) (by decide) rfl (by omega)), aN p 1 (p + 1) rfl (by omega), iO 9 i1, vO 5 3 (cnv8Z x1 g1), bO .shl 3 (shlU (n := x1) (k := 16) (m := x1 * 65536) (by decide) rfl (by omega)), bO .or 3 (orZ 24 (x := x0 * 16777216) (b := x1 * 65536) (m := x0 * 16777216 + x1 * 65536) (by omega) rfl (by omega) (by omega)), aN p 2 (p + 2) rfl (by omega), iO 9 i2, vO 5 3 (cnv8Z x2 g2), bO .shl 3 (shlU (n := x2) (k := 8) (m := x2 * 256) (by decide) rfl (by omega)), bO .or 3 (orZ 16 (x := x0 * 16777216 + x1 * 65536) (b := x2 * 256) (m := x0 * 16777216 + x1 * 65536 + x2 * 256) (by omega) rfl (by omega) (by omega)), aN p 3 (p + 3) rfl (by omega), iO 9 i3, vO 5 3 (cnv8Z x3 g3), bO .or 3 (orZ 8 (x := x0 * 16777216 + x1 * 65536 + x2 * 256) (b := x3) (m := n) (by omega) (by omega) g3 (by omega))] R (PanOk.then (PanOk.qk PanOk.post)) I fun a5 w5 I => ?_
      refine goQ [gN n 65536 false (decide_eq_false h2), lnO s, sN s.length p (s.length - p) (by omega) (by omega), sN (s.length - p) 8 (s.length - p - 8) (by omega) (by omega), gN n (s.length - p - 8) true (decide_eq_true h3)] R I fun β6 a6 w6 I hb6 => ?_
      refine endE 0 ?_
      refine goQ [] R (I.exit _) fun β5 a5 w5 I hb5 => ?_
      exact outQ (v := .tuple #[.slice ad l.length cap, Z p]) I ⟨_, rfl, fin I.hJ⟩
    rw [if_neg h2, if_neg h3] at e1
    have e5 : (s.take (p + 8 + n)).drop p = (s.drop p).take (8 + n) := by rw [List.drop_take, show p + 8 + n - p = 8 + n by omega]
    have e6 : (s.take (p + 8 + n)).drop (p + 8) = ((s.drop p).take (8 + n)).drop 8 := by rw [← e5, List.drop_drop]
    have hne : fr (((s.drop p).take (8 + n)).drop 8) ≠ (s.drop p).take (8 + n) := fun h => by
      rw [if_pos h] at e1
      cases e1
    have hsl := fun w => both_run (l := s) (i := p + 8) (j := p + 8 + n) (by omega) (by omega) w
    rw [e6] at hsl
    have hsl2 := fun w => both_run (l := s) (i := p) (j := p + 8 + n) (by omega) (by omega) w
    rw [e5] at hsl2
    have hfr := rframe_any (((s.drop p).take (8 + n)).drop 8)
    clear e1 e5 e6 hn
    generalize (s.drop p).take (8 + n) = b at *
    generalize b.drop 8 = x at *
    generalize fr x = f at *
    refine goQ [lnO s, sN s.length p (s.length - p) (by omega) (by omega), bO .geq 3 (run_geqZ (x := (s.length - p : Nat)) (y := 8) (b := true) (decide_eq_true (by omega)))] R I fun β4 a4 w4 I hb4 => ?_
    refine dwQ 26 [iO 9 i0, vO 5 3 (cnv8Z x0 g0), bO .shl 3 (shlU (n := x0) (k := 24) (m := x0 * 16777216) (by decide) rfl (by omega)), aN p 1 (p + 1) rfl (by omega), iO 9 i1, vO 5 3 (cnv8Z x1 g1), bO .shl 3 (shlU (n := x1) (k := 16) (m := x1 * 65536) (by decide) rfl (by omega)), bO .or 3 (orZ 24 (x := x0 * 16777216) (b := x1 * 65536) (m := x0 * 16777216 + x1 * 65536) (by omega) rfl (by omega) (by omega)), aN p 2 (p + 2) rfl (by omega), iO 9 i2, vO 5 3 (cnv8Z x2 g2), bO .shl 3 (shlU (n := x2) (k := 8) (m := x2 * 256) (by decide) rfl (by omega)), bO .or 3 (orZ 16 (x := x0 * 16777216 + x1 * 65536) (b := x2 * 256) (m := x0 * 16777216 + x1 * 65536 + x2 * 256) (by omega) rfl (by omega) (by omega)), aN p 3 (p + 3) rfl (by omega), iO 9 i3, vO 5 3 (cnv8Z x3 g3), bO .or 3 (orZ 8 (x := x0 * 16777216 + x1 * 65536 + x2 * 256) (b := x3) (m := n) (by omega) (by omega) g3 (by omega))] R (PanOk.then (PanOk.qk PanOk.post)) I fun a5 w5 I => ?_
    refine goQ [gN n 65536 false (decide_eq_false h2), lnO s, sN s.length p (s.length - p) (by omega) (by omega), sN (s.length - p) 8 (s.length - p - 8) (by omega) (by omega), gN n (s.length - p - 8) false (decide_eq_false h3), aN p 8 (p + 8) rfl (by omega), aN p 8 (p + 8) rfl (by omega), aN (p + 8) n (p + 8 + n) rfl (by omega), sLH 9 hsl] R I fun β6 a6 w6 I hb6 => ?_
    refine dwQ 10 [kC Tryd.func11 hfr, aN p 8 (p + 8) rfl (by omega), aN (p + 8) n (p + 8 + n) rfl (by omega), sLH 9 hsl2, bO .neq 9 (neqX_run (a := f) (b := b) (q := true) (decide_eq_true hne))] R (PanOk.then (PanOk.qk PanOk.post)) I fun a7 w7 I => ?_
    refine goQ [] R I fun β8 a8 w8 I hb8 => ?_
    refine endE 0 ?_
    refine goQ [] R (I.exit _) fun β5 a5 w5 I hb5 => ?_
    exact outQ (v := .tuple #[.slice ad l.length cap, Z p]) I ⟨_, rfl, fin I.hJ⟩
end Go.Proofs.YtdlanihbpbfbcaaDoor
/- Chapter 23's example; what a record has, and that it is read. -/
namespace Go.Proofs.YtdlanihbpbfbcaaDoor
open Go.RowKit Go.Sort
set_option linter.unusedVariables false
set_option maxRecDepth 100000
theorem flat_any {α : Type} {f : α → List Value} {sz : Nat} (hf : ∀ x, (f x).length = sz) : ∀ l : List α, (l.map f).flatten.length = l.length * sz
  | [] => by simp
  | x :: l => by rw [List.map_cons, List.flatten_cons, List.length_append, hf, flat_any hf l, List.length_cons, Nat.add_mul]; omega
theorem own_new {α : Type} (f : α → List Value) (e sz : Nat) (l : List α) (hf : ∀ x, (f x).length = sz) (hn : l.length ≤ 1000) {cur : Array Value} (hc : cur.toList = (l.map f).flatten) (w : World) : (w.alloc (.cells cur e)).ownsRow w.heap.size e sz (.slice (some ⟨w.heap.size, 0, none⟩) l.length l.length) (l.map f).length (l.map f).flatten := by
  have h1 := flat_any hf l
  refine ⟨by rw [h1, List.length_map], .inr ⟨w.heap.size, l.length, cur, by rw [List.length_map], Nat.le_refl _, heap_alloc_last w _, by rw [List.length_map]; exact Nat.le_refl _, by simp only [maxLen]; omega, by rw [← h1, ← hc]; simp, ?_⟩⟩
  rw [List.length_map, ← h1, hc, List.take_length]
theorem nw_tx (l : List Tx) (hn : l.length ≤ 1000) {cur : Array Value} (hc : cur.toList = (l.map fun t => [str t]).flatten) (w : World) : NW w [txF (.slice (some ⟨w.heap.size, 0, none⟩) l.length l.length) l] (w.alloc (.cells cur 9)) := by
  have h := own_list (C := C1s) (fun t => [str t]) (own_new (fun t => [str t]) 9 1 l (fun _ => rfl) hn hc w) fun x hx => ⟨rfl, rfl⟩
  have hz : (w.alloc (.cells cur 9)).heap.size = w.heap.size + 1 := by simp
  exact ⟨below_alloc w _, fun k => (Value.slice (some ⟨w.heap.size, 0, none⟩) l.length l.length).ownBlock = some k, fun k hk => by simp only [Value.ownBlock, Option.some.injEq] at hk; omega, fun f hf => by rw [List.mem_singleton.1 hf]; exact h⟩
/-- The example's bytes. -/
def exB : Tx := fr [97] ++ fr [98, 99] ++ [0, 0, 0, 1, 120]
theorem ex_rd : rdA exB = [[97], [98, 99]] := by
  have h := rd_back [0, 0, 0, 1, 120] [[97], [98, 99]] (by decide)
  rw [rdA_none (s := [0, 0, 0, 1, 120]) (if_pos (by decide)), List.append_nil, frs_cons, frs_cons, frs_nil, List.append_nil] at h
  exact h
theorem ex_len : exB.length = 24 := by
  unfold exB
  rw [List.length_append, List.length_append, fr_len (by decide), fr_len (by decide)]
  rfl
theorem awake_any {w : World} (ht : Tabs w ki) : Calls Tryd.prog 7 #[] w fun e w' => e = .returned (.bool true) ∧ Below w.heap.size w w' := by
  have hA := fun (w' : World) (h : Tabs w' ki) => frame_any [97] h
  have hB := fun (w' : World) (h : Tabs w' ki) => frame_any [98, 99] h
  have lA := fr_len (l := [97]) (by decide)
  have lB := fr_len (l := [98, 99]) (by decide)
  have hR : rdA (fr [97] ++ fr [98, 99] ++ [0, 0, 0, 1, 120]) = [[97], [98, 99]] := ex_rd
  have hF := fun (w' : World) (h : Tabs w' ki) => frames_any (fr [97] ++ fr [98, 99] ++ [0, 0, 0, 1, 120]) (by rw [show fr [97] ++ fr [98, 99] ++ [0, 0, 0, 1, 120] = exB from rfl, ex_len]; omega) h
  rw [hR] at hF
  clear hR
  generalize fr [97] = fa at *
  generalize fr [98, 99] = fb at *
  simp only [List.length_cons, List.length_nil] at lA lB
  refine inQ (J := GS w w w.heap.size noK (· < w.heap.size) [] []) (F := GF noK (· < w.heap.size) []) Tryd.func7 (GS.start w fun f hf => by cases hf) fun a I => ?_
  refine goT (T := fun w => Tabs w ki) [cA Tryd.func10 hA, cA Tryd.func10 hB, bO .add 9 (addS_run fa fb (by omega)), bO .add 9 (addS_run (fa ++ fb) [0, 0, 0, 1, 120] (by rw [List.length_append]; simp; omega))] (GS.rsr _ _ _ _ _ _ _) (fun w' h => ht.below h.bw) I fun β1 a1 w1 I hb1 => ?_
  have hJ := I.hJ
  refine mcall (f := 8) (ss := [Sum.inl (str (fa ++ fb ++ [0, 0, 0, 1, 120]))]) Tryd.func8 I ((hF w1 (ht.below hJ.bw)).mono fun e w2 he => ?_)
  obtain ⟨ad, cap, rfl, _, hn⟩ := he
  obtain ⟨K, I⟩ := I.gs hn (.tuple #[.slice ad 2 cap, Z 19])
  refine goQ [] (GS.rsr _ _ _ _ _ _ _) I fun β3 a3 w3 I hb3 => ?_
  refine bslQ (ss := [(0, Sum.inl (str [97])), (1, Sum.inl (str [98, 99]))]) I (bs23_2 _ _ w3) ?_
  obtain ⟨K2, I⟩ := I.gs (nw_tx [[97], [98, 99]] (by decide) rfl w3) (.slice (some ⟨w3.heap.size, 0, none⟩) 2 2)
  generalize w3.heap.size = g at *
  refine goT (T := GS w w w.heap.size noK K2 [txF (.slice (some ⟨g, 0, none⟩) 2 2) [[97], [98, 99]], txF (.slice ad 2 cap) [[97], [98, 99]]] []) [cA Tryd.func12 (fun w' h => same_any (h.at 1 (f := txF (.slice ad 2 cap) [[97], [98, 99]]) rfl) (h.at 0 (f := txF (.slice (some ⟨g, 0, none⟩) 2 2) [[97], [98, 99]]) rfl) (by decide)), bO .eql 3 (run_eqlZ (x := 19) (y := 19) (b := true) rfl)] (GS.rsr _ _ _ _ _ _ _) (fun _ h => h) I fun β5 a5 w5 I hb5 => ?_
  exact outQ (v := .bool true) I ⟨rfl, I.hJ.bw⟩
end Go.Proofs.YtdlanihbpbfbcaaDoor
/- The laws LogTells and LogSizes, walked. -/
namespace Go.Proofs.YtdlanihbpbfbcaaDoor
open Go.RowKit Go.Sort
set_option linter.unusedVariables false
set_option maxRecDepth 100000
abbrev gT {T : World → Prop} (x y : Nat) (h : y < x) : Fa Tryd.prog T := bO .gtr 3 (run_gtrZ (x := x) (y := y) (b := true) (decide_eq_true (by omega)))
abbrev gF {T : World → Prop} (x y : Nat) (h : ¬ y < x) : Fa Tryd.prog T := bO .gtr 3 (run_gtrZ (x := x) (y := y) (b := false) (decide_eq_false (by omega)))
abbrev eT {T : World → Prop} (x y : Nat) (h : x = y) : Fa Tryd.prog T := bO .eql 3 (run_eqlZ (x := x) (y := y) (b := true) (decide_eq_true (by omega)))
abbrev esT {T : World → Prop} (a : Tx) : Fa Tryd.prog T := bO .eql 9 (eqS_run (a := a) (b := a) (q := true) (decide_eq_true rfl))
abbrev awF {T : World → Prop} (h : ∀ w, T w → Tabs w ki) : Fa Tryd.prog T := cA Tryd.func7 (fun w t => awake_any (h w t))
theorem same_self {w : World} {v v2 : Value} {l : List Tx} (h : SlI 1 C1s (· < w.heap.size) w v l) (h2 : SlI 1 C1s (· < w.heap.size) w v2 l) (hl : l.length < 1000000000) : Calls Tryd.prog 12 #[v, v2] w fun e w' => e = .returned (.bool true) ∧ Below w.heap.size w w' := by
  have := same_any h h2 hl
  rwa [decide_eq_true rfl] at this
set_option maxHeartbeats 1000000 in
theorem tells_walk {w : World} (ht : Tabs w ki) (s b : Tx) : Calls Tryd.prog 3 #[str s, str b] w fun e w' => e = .returned (.bool true) ∧ Below w.heap.size w w' := by
  by_cases h1 : 70000 < s.length
  · refine inQ (J := Below w.heap.size w) (F := (· < w.heap.size)) Tryd.func3 (Below.refl _ _) fun a I => ?_
    refine goT (T := Below w.heap.size w) [lnO s, gT s.length 70000 h1, awF fun w' h => ht.below h] (nonR w) (fun _ h => h) I fun β a w1 I hb => ?_
    exact outQ (v := .bool true) I ⟨rfl, I.hJ⟩
  by_cases h2 : 70000 < b.length
  · refine inQ (J := Below w.heap.size w) (F := (· < w.heap.size)) Tryd.func3 (Below.refl _ _) fun a I => ?_
    refine goT (T := Below w.heap.size w) [lnO s, gF s.length 70000 h1, lnO b, gT b.length 70000 h2, awF fun w' h => ht.below h] (nonR w) (fun _ h => h) I fun β a w1 I hb => ?_
    exact outQ (v := .bool true) I ⟨rfl, I.hJ⟩
  have hP := fun (w' : World) (h : Tabs w' ki) => frames_any b (by omega) h
  have hR := fun (w' : World) => rframes_any b (by omega) w'
  have hA := fun (w' : World) (h : Tabs w' ki) => frame_any s h
  have hB := rframe_any s
  have hN : (rdA b).length ≤ b.length := by
    have := rd_at b _ (Nat.le_refl _)
    omega
  generalize fr s = f at *
  obtain ⟨p, hp⟩ : ∃ p, pos (rdA b) (rdA b).length = p := ⟨_, rfl⟩
  rw [hp] at hP hR
  clear hp
  generalize rdA b = l at *
  refine inQ (J := GS w w w.heap.size noK (· < w.heap.size) [] []) (F := GF noK (· < w.heap.size) []) Tryd.func3 (GS.start w fun f hf => by cases hf) fun a I => ?_
  refine goQ [lnO s, gF s.length 70000 h1, lnO b, gF b.length 70000 h2] (GS.rsr _ _ _ _ _ _ _) I fun β1 a1 w1 I hb1 => ?_
  refine mcall (f := 8) (ss := [Sum.inl (str b)]) Tryd.func8 I ((hP w1 (ht.below I.hJ.bw)).mono fun e w2 he => ?_)
  obtain ⟨ad, cap, rfl, _, hn⟩ := he
  obtain ⟨K, I⟩ := I.gs hn (.tuple #[.slice ad l.length cap, Z p])
  refine goQ [] (GS.rsr _ _ _ _ _ _ _) I fun β3 a3 w3 I hb3 => ?_
  refine mcall (f := 9) (ss := [Sum.inl (str b)]) Tryd.func9 I ((hR w3).mono fun e w4 he => ?_)
  obtain ⟨v, rfl, hn⟩ := he
  obtain ⟨K2, I⟩ := I.gs hn (.tuple #[v, Z p])
  refine goT (T := GS w w w.heap.size noK K2 [txF v l, txF (.slice ad l.length cap) l] []) [cA Tryd.func10 (fun w' h => hA w' (ht.below h.bw)), kC Tryd.func11 hB, esT f, cA Tryd.func12 (fun w' h => same_self (h.at 1 (f := txF (.slice ad l.length cap) l) rfl) (h.at 0 (f := txF v l) rfl) (by omega)), bO .eql 3 (run_eqlZ (x := p) (y := p) (b := true) (decide_eq_true rfl)), awF fun w' h => ht.below h.bw] (GS.rsr _ _ _ _ _ _ _) (fun _ h => h) I fun β5 a5 w5 I hb5 => ?_
  exact outQ (v := .bool true) I ⟨rfl, I.hJ.bw⟩
theorem rd_one {s : Tx} (h : s.length ≤ 65536) : rdA (fr s) = [s] := by
  have := rd_back [] [s] (fun t ht => by rw [List.mem_singleton.1 ht]; exact h)
  rw [frs_cons, frs_nil, List.append_nil, List.append_nil] at this
  exact this
set_option maxHeartbeats 1000000 in
theorem sizes_walk {w : World} (ht : Tabs w ki) (s : Tx) : Calls Tryd.prog 6 #[str s] w fun e w' => e = .returned (.bool true) ∧ Below w.heap.size w w' := by
  by_cases h1 : 70000 < s.length
  · refine inQ (J := Below w.heap.size w) (F := (· < w.heap.size)) Tryd.func6 (Below.refl _ _) fun a I => ?_
    refine goT (T := Below w.heap.size w) [lnO s, gT s.length 70000 h1, awF fun w' h => ht.below h] (nonR w) (fun _ h => h) I fun β a w1 I hb => ?_
    exact outQ (v := .bool true) I ⟨rfl, I.hJ⟩
  have hA := fun (w' : World) (h : Tabs w' ki) => frame_any s h
  by_cases h2 : 65536 < s.length
  · rw [fr_long h2] at hA
    refine inQ (J := Below w.heap.size w) (F := (· < w.heap.size)) Tryd.func6 (Below.refl _ _) fun a I => ?_
    refine goT (T := Below w.heap.size w) [lnO s, gF s.length 70000 h1, cA Tryd.func10 (fun w' h => hA w' (ht.below h)), lnO s, gT s.length 65536 h2, esT [], awF fun w' h => ht.below h] (nonR w) (fun _ h => h) I fun β a w1 I hb => ?_
    exact outQ (v := .bool true) I ⟨rfl, I.hJ⟩
  have h3 : s.length ≤ 65536 := by omega
  have hl := fr_len h3
  have hd := fr_drop h3
  have hP := fun (w' : World) (h : Tabs w' ki) => frames_any (fr s) (by omega) h
  rw [rd_one h3] at hP
  have hp : pos [s] [s].length = 8 + s.length := by rw [List.length_singleton, pos_cons, pos_zero, Nat.add_zero]
  rw [hp, ← hl, List.length_singleton] at hP
  generalize fr s = f at *
  have hfr := fun w => from_run (l := f) (k := 8) (by omega) w
  rw [hd] at hfr
  clear hd hp
  refine inQ (J := GS w w w.heap.size noK (· < w.heap.size) [] []) (F := GF noK (· < w.heap.size) []) Tryd.func6 (GS.start w fun f hf => by cases hf) fun a I => ?_
  refine goT (T := GS w w w.heap.size noK (· < w.heap.size) [] []) [lnO s, gF s.length 70000 h1, cA Tryd.func10 (fun w' h => hA w' (ht.below h.bw)), lnO s, gF s.length 65536 h2] (GS.rsr _ _ _ _ _ _ _) (fun _ h => h) I fun β1 a1 w1 I hb1 => ?_
  refine mcall (f := 8) (ss := [Sum.inl (str f)]) Tryd.func8 I ((hP w1 (ht.below I.hJ.bw)).mono fun e w2 he => ?_)
  obtain ⟨ad, cap, rfl, _, hn⟩ := he
  obtain ⟨g, off, rfl⟩ : ∃ g off, ad = some ⟨g, off, none⟩ := by
    obtain ⟨_, K1, _, h2⟩ := hn
    obtain ⟨ad', cap', he, hm⟩ := h2 _ List.mem_cons_self
    cases he
    obtain ⟨g, off, cs, h1, _⟩ := hm 0 s rfl
    exact ⟨g, off, h1⟩
  obtain ⟨K, I⟩ := I.gs hn (.tuple #[.slice (some ⟨g, off, none⟩) 1 cap, Z f.length])
  have hld : ∀ w', GS w w w.heap.size noK K [txF (.slice (some ⟨g, off, none⟩) 1 cap) [s]] [] w' → (loadVar 9 ⟨g, off + 0 * 1, none⟩).run Tryd.prog w' = .ok (str s) w' := fun w' h => by
    obtain ⟨ad', cap', he, hm⟩ := h.at 0 (f := txF (.slice (some ⟨g, off, none⟩) 1 cap) [s]) rfl
    cases he
    obtain ⟨g', off', cs, he2, _, hca, rfl⟩ := hm 0 s rfl
    cases he2
    exact loadT hca
  refine goT (T := GS w w w.heap.size noK K [txF (.slice (some ⟨g, off, none⟩) 1 cap) [s]] []) [lnO f, lnO s, aN s.length 8 (s.length + 8) rfl (by omega), eT f.length (s.length + 8) (by omega), sO 9 hfr, esT s, lnT (some ⟨g, off, none⟩) 1 cap, eT 1 1 rfl, ixT g off 1 cap 0 (by decide), ldA 9 hld, esT s, lnO f, eT f.length f.length rfl, awF fun w' h => ht.below h.bw] (GS.rsr _ _ _ _ _ _ _) (fun _ h => h) I fun β5 a5 w5 I hb5 => ?_
  exact outQ (v := .bool true) I ⟨rfl, I.hJ.bw⟩
end Go.Proofs.YtdlanihbpbfbcaaDoor
