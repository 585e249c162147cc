/- Write of both sides; the chapter's examples. -/
import Derived.Test.YthmhlbikejodaaaBb
namespace Go.Proofs.Ythmhlbikejodaaa
open Go.RowKit Go.Sort
set_option linter.unusedVariables false
set_option maxRecDepth 100000
abbrev WrT : Type := By × Int × Bool × Int
def wrT (d t : By) (f : Int) (o : Bool) (s : By) : WrT :=
  if o = true then (t, f, true, 26) else if 131072 < d.length + t.length + s.length then (t, f, false, 3) else if f < 0 then (t ++ s, f, false, 0)
  else if f < s.length then (t ++ s.take f.toNat, 0, true, 26) else (t ++ s, f - s.length, false, 0)
abbrev wV (d : By) (r : WrT) : Value := .tuple #[dk d r.1 r.2.1 r.2.2.1, Z r.2.2.2]
theorem write_any (d t s : By) (f : Int) (o : Bool) (hd : d.length ≤ 1000000000) (ht : t.length ≤ 1000000000) (hs : s.length ≤ 1000000000) (hf : f ≤ 1000000000) (w : World) : Calls Try.prog 11 #[dk d t f o, str s] w (Rt0 (wV d (wrT d t f o s)) w) := by
  have hsz := size_any d t f o (by omega)
  have hbu := burn_any d t s f o
  cases o with
  | true =>
    rw [show wrT d t f true s = (t, f, true, 26) from rfl]
    refine inQ (J := Below w.heap.size w) (F := (· < w.heap.size)) Try.func11 (Below.refl _ _) fun a I => ?_
    refine goQ [] (nonR w) I fun β a w1 I hb => ?_
    exact outQ (v := wV d (t, f, true, 26)) I ⟨rfl, I.hJ⟩
  | false =>
    obtain ⟨z, hk⟩ : ∃ z : Int, ((d.length + t.length : Nat) : Int) = z := ⟨_, rfl⟩
    rw [hk] at hsz
    obtain ⟨y, hy⟩ : ∃ y : Int, z + (s.length : Int) = y := ⟨_, rfl⟩
    have hw : IntKind.i64.wrap (z + (s.length : Int)) = y := by rw [wz (by omega) (by omega)]; exact hy
    by_cases h1 : 131072 < d.length + t.length + s.length
    · rw [show wrT d t f false s = (t, f, false, 3) by unfold wrT; rw [if_neg (by simp), if_pos h1]]
      refine inQ (J := Below w.heap.size w) (F := (· < w.heap.size)) Try.func11 (Below.refl _ _) fun a I => ?_
      refine goQ [kC Try.func22 hsz, lnO s, bO .add 3 (run_addZ (x := z) (y := s.length) (z := y) hw), bO .gtr 3 (run_gtrZ (x := y) (y := 131072) (b := true) (decide_eq_true (by omega)))] (nonR w) I fun β a w1 I hb => ?_
      exact outQ (v := wV d (t, f, false, 3)) I ⟨rfl, I.hJ⟩
    · by_cases h2 : f < 0
      · rw [show wrT d t f false s = (t ++ s, f, false, 0) by unfold wrT; rw [if_neg (by simp), if_neg h1, if_pos h2]]
        refine inQ (J := Below w.heap.size w) (F := (· < w.heap.size)) Try.func11 (Below.refl _ _) fun a I => ?_
        refine goQ [kC Try.func22 hsz, lnO s, bO .add 3 (run_addZ (x := z) (y := s.length) (z := y) hw), bO .gtr 3 (run_gtrZ (x := y) (y := 131072) (b := false) (decide_eq_false (by omega))), bO .lss 3 (run_lssZ (x := f) (y := 0) (b := true) (decide_eq_true h2)), bO .add 9 (addS_run t s (by omega))] (nonR w) I fun β a w1 I hb => ?_
        exact outQ (v := wV d (t ++ s, f, false, 0)) I ⟨rfl, I.hJ⟩
      · have hb2 := fun w => hbu ⟨by omega, hf⟩ ht hs w
        have key : ∃ r, wrT d t f false s = r ∧ (Value.tuple #[dk d (t ++ s.take f.toNat) (f - (min f.toNat s.length : Nat)) (if min f.toNat s.length < s.length then true else false), Z (if min f.toNat s.length < s.length then 26 else 0)]) = wV d r := by
          by_cases h3 : f < s.length
          · refine ⟨(t ++ s.take f.toNat, 0, true, 26), by unfold wrT; rw [if_neg (by simp), if_neg h1, if_neg h2, if_pos h3], ?_⟩
            rw [Nat.min_eq_left (by omega), if_pos (by omega), if_pos (by omega), show f - (f.toNat : Int) = 0 by omega]
          · refine ⟨(t ++ s, f - s.length, false, 0), by unfold wrT; rw [if_neg (by simp), if_neg h1, if_neg h2, if_neg h3], ?_⟩
            rw [Nat.min_eq_right (by omega), if_neg (by omega), if_neg (by omega), List.take_of_length_le (by omega)]
        obtain ⟨r, hr, he⟩ := key
        rw [hr]
        rw [he] at hb2
        obtain ⟨r1, r2, r3, r4⟩ := r
        refine inQ (J := Below w.heap.size w) (F := (· < w.heap.size)) Try.func11 (Below.refl _ _) fun a I => ?_
        refine goQ [kC Try.func22 hsz, lnO s, bO .add 3 (run_addZ (x := z) (y := s.length) (z := y) hw), bO .gtr 3 (run_gtrZ (x := y) (y := 131072) (b := false) (decide_eq_false (by omega))), bO .lss 3 (run_lssZ (x := f) (y := 0) (b := false) (decide_eq_false h2)), kC Try.func23 hb2] (nonR w) I fun β a w1 I hb => ?_
        exact outQ (v := wV d (r1, r2, r3, r4)) I ⟨rfl, I.hJ⟩
theorem rwrite_any (d t s : By) (f : Int) (o : Bool) (hd : d.length ≤ 1000000000) (ht : t.length ≤ 1000000000) (hs : s.length ≤ 1000000000) (hf : f ≤ 1000000000) (w : World) : Calls Try.prog 12 #[dk d t f o, str s] w (Rt0 (wV d (wrT d t f o s)) w) := by
  cases o with
  | true =>
    rw [show wrT d t f true s = (t, f, true, 26) from rfl]
    refine inQ (J := Below w.heap.size w) (F := (· < w.heap.size)) Try.func12 (Below.refl _ _) fun a I => ?_
    refine goQ [] (nonR w) I fun β a w1 I hb => ?_
    exact outQ (v := wV d (t, f, true, 26)) I ⟨rfl, I.hJ⟩
  | false =>
    obtain ⟨z, hz⟩ : ∃ z : Int, 131072 - (d.length : Int) = z := ⟨_, rfl⟩
    have hw1 : IntKind.i64.wrap (131072 - (d.length : Int)) = z := by rw [wz (by omega) (by omega)]; exact hz
    obtain ⟨y, hy⟩ : ∃ y : Int, z - (t.length : Int) = y := ⟨_, rfl⟩
    have hw2 : IntKind.i64.wrap (z - (t.length : Int)) = y := by rw [wz (by omega) (by omega)]; exact hy
    by_cases h1 : 131072 < d.length + t.length + s.length
    · rw [show wrT d t f false s = (t, f, false, 3) by unfold wrT; rw [if_neg (by simp), if_pos h1]]
      refine inQ (J := Below w.heap.size w) (F := (· < w.heap.size)) Try.func12 (Below.refl _ _) fun a I => ?_
      refine goQ [lnO s, lnO d, bO .sub 3 (run_subZ (x := 131072) (y := d.length) (z := z) hw1), lnO t, bO .sub 3 (run_subZ (x := z) (y := t.length) (z := y) hw2), bO .gtr 3 (run_gtrZ (x := s.length) (y := y) (b := true) (decide_eq_true (by omega)))] (nonR w) I fun β a w1 I hb => ?_
      exact outQ (v := wV d (t, f, false, 3)) I ⟨rfl, I.hJ⟩
    · by_cases h2 : 0 ≤ f
      · by_cases h3 : f < s.length
        · rw [show wrT d t f false s = (t ++ s.take f.toNat, 0, true, 26) by unfold wrT; rw [if_neg (by simp), if_neg h1, if_neg (by omega), if_pos h3]]
          obtain ⟨k, rfl⟩ : ∃ k : Nat, f = k := ⟨f.toNat, by omega⟩
          have hl : (s.take k).length ≤ s.length := by rw [List.length_take]; omega
          refine inQ (J := Below w.heap.size w) (F := (· < w.heap.size)) Try.func12 (Below.refl _ _) fun a I => ?_
          refine goQ [lnO s, lnO d, bO .sub 3 (run_subZ (x := 131072) (y := d.length) (z := z) hw1), lnO t, bO .sub 3 (run_subZ (x := z) (y := t.length) (z := y) hw2), bO .gtr 3 (run_gtrZ (x := s.length) (y := y) (b := false) (decide_eq_false (by omega))), bO .geq 3 (run_geqZ (x := k) (y := 0) (b := true) (decide_eq_true h2)), lnO s, bO .gtr 3 (run_gtrZ (x := s.length) (y := k) (b := true) (decide_eq_true h3))] (nonR w) I fun β a w1 I hb => ?_
          refine dwQ 8 [sT 9 (to_run (l := s) (k := k) (by omega)), bO .add 9 (addS_run t (s.take k) (by omega))] (nonR w) PanOk.post I fun a2 w2 I => ?_
          refine goQ [] (nonR w) I fun β3 a3 w3 I hb3 => ?_
          exact outQ (v := wV d (t ++ s.take k, 0, true, 26)) I ⟨rfl, I.hJ⟩
        · rw [show wrT d t f false s = (t ++ s, f - s.length, false, 0) by unfold wrT; rw [if_neg (by simp), if_neg h1, if_neg (by omega), if_neg h3]]
          obtain ⟨x, hx⟩ : ∃ x : Int, f - (s.length : Int) = x := ⟨_, rfl⟩
          have hw3 : IntKind.i64.wrap (f - (s.length : Int)) = x := by rw [wz (by omega) (by omega)]; exact hx
          rw [hx]
          refine inQ (J := Below w.heap.size w) (F := (· < w.heap.size)) Try.func12 (Below.refl _ _) fun a I => ?_
          refine goQ [lnO s, lnO d, bO .sub 3 (run_subZ (x := 131072) (y := d.length) (z := z) hw1), lnO t, bO .sub 3 (run_subZ (x := z) (y := t.length) (z := y) hw2), bO .gtr 3 (run_gtrZ (x := s.length) (y := y) (b := false) (decide_eq_false (by omega))), bO .geq 3 (run_geqZ (x := f) (y := 0) (b := true) (decide_eq_true h2)), lnO s, bO .gtr 3 (run_gtrZ (x := s.length) (y := f) (b := false) (decide_eq_false h3)), bO .add 9 (addS_run t s (by omega)), bO .geq 3 (run_geqZ (x := f) (y := 0) (b := true) (decide_eq_true h2)), lnO s, bO .sub 3 (run_subZ (x := f) (y := s.length) (z := x) hw3)] (nonR w) I fun β a w1 I hb => ?_
          exact outQ (v := wV d (t ++ s, x, false, 0)) I ⟨rfl, I.hJ⟩
      · rw [show wrT d t f false s = (t ++ s, f, false, 0) by unfold wrT; rw [if_neg (by simp), if_neg h1, if_pos (by omega)]]
        refine inQ (J := Below w.heap.size w) (F := (· < w.heap.size)) Try.func12 (Below.refl _ _) fun a I => ?_
        refine goQ [lnO s, lnO d, bO .sub 3 (run_subZ (x := 131072) (y := d.length) (z := z) hw1), lnO t, bO .sub 3 (run_subZ (x := z) (y := t.length) (z := y) hw2), bO .gtr 3 (run_gtrZ (x := s.length) (y := y) (b := false) (decide_eq_false (by omega))), bO .geq 3 (run_geqZ (x := f) (y := 0) (b := false) (decide_eq_false h2)), bO .add 9 (addS_run t s (by omega)), bO .geq 3 (run_geqZ (x := f) (y := 0) (b := false) (decide_eq_false h2))] (nonR w) I fun β a w1 I hb => ?_
        exact outQ (v := wV d (t ++ s, f, false, 0)) I ⟨rfl, I.hJ⟩
theorem fld0 (d t : By) (f : Int) (o : Bool) (w : World) : (Instr.field 23 (dk d t f o) 0).run Try.prog w = .ok (str d) w := by kernel_rfl
theorem awake_any (w : World) : Calls Try.prog 6 #[] w (Rt0 (.bool true) w) := by
  have w1 := write_any [] [] [97, 98] (-1) false (by decide) (by decide) (by decide) (by decide)
  rw [show wrT [] [] (-1) false [97, 98] = ([97, 98], -1, false, 0) by decide +kernel] at w1
  have s1 := sync_any [] [97, 98] (-1) false (by decide)
  have w2 := write_any [97, 98] [] [99, 100] (-1) false (by decide) (by decide) (by decide) (by decide)
  rw [show wrT [97, 98] [] (-1) false [99, 100] = ([99, 100], -1, false, 0) by decide +kernel] at w2
  have c1 := crash_any [97, 98] [99, 100] (-1) false 1 (by decide)
  have a1 := arm_any [] [] (-1) false 1
  rw [show arF (-1) false 1 = 1 by decide] at a1
  have w3 := write_any [] [] [120, 121] 1 false (by decide) (by decide) (by decide) (by decide)
  rw [show wrT [] [] 1 false [120, 121] = ([120], 0, true, 26) by decide +kernel] at w3
  have c2 := crash_any [] [120] 0 true 9 (by decide)
  refine inQ (J := Below w.heap.size w) (F := (· < w.heap.size)) Try.func6 (Below.refl _ _) fun a I => ?_
  refine goQ [kC Try.func9 new_any, kC Try.func11 w1, kC Try.func13 s1, kC Try.func11 w2, kC Try.func17 c1, kC Try.func9 new_any, kC Try.func15 a1, kC Try.func11 w3, bO .eql 27 (run_eqE (x := 0) (y := 0) (b := true) rfl), bO .eql 27 (run_eqE (x := 0) (y := 0) (b := true) rfl), bO .eql 27 (run_eqE (x := 0) (y := 0) (b := true) rfl), bO .eql 9 (eqS_run (a := [97, 98, 99]) (b := [97, 98, 99]) (q := true) (by decide)), bO .eql 27 (run_eqE (x := 26) (y := 26) (b := true) rfl), kC Try.func17 c2, fO 23 0 (fld0 [120] [] (-1) false), bO .eql 9 (eqS_run (a := [120]) (b := [120]) (q := true) (by decide))] (nonR w) I fun β a w1 I hb => ?_
  exact outQ (v := .bool true) I ⟨rfl, I.hJ⟩
end Go.Proofs.Ythmhlbikejodaaa
