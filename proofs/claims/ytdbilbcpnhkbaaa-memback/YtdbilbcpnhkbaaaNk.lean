/- MemSlices. -/
import Derived.Test.YtdbilbcpnhkbaaaNj
namespace Go.Proofs.Ytdbilbcpnhkbaaa
open Go.RowKit Go.Sort Go.Shelf
set_option linter.unusedVariables false
set_option maxRecDepth 100000
theorem fil_get (t : List UInt8) (p j : Nat) : (fil (t.take p) p)[j]? = if j < p then some (t.getD j 0) else none := by
  unfold fil
  rw [List.getElem?_append, List.length_take, List.getElem?_take, List.getElem?_replicate, List.getD_eq_getElem?_getD]
  by_cases h : j < min p t.length
  · rw [if_pos h, if_pos (by omega), if_pos (by omega), List.getElem?_eq_getElem (by omega)]
    rfl
  · rw [if_neg h]
    by_cases hp : j < p
    · rw [if_pos (by omega), if_pos hp, List.getElem?_eq_none (by omega)]
      rfl
    · rw [if_neg (by omega), if_neg hp]
theorem fil_tk (t : List UInt8) (p : Nat) : (fil (t.take p) p).length = p := by rw [fil_len, List.length_take]; omega
theorem fil_cat (t : List UInt8) (p q : Nat) : fil (t.take (p + q)) (p + q) = fil (t.take p) p ++ fil ((t.drop p).take q) q := by
  apply List.ext_getElem?
  intro j
  rw [List.getElem?_append, fil_tk, fil_get, fil_get, fil_get]
  by_cases h : j < p
  · rw [if_pos (by omega), if_pos h, if_pos h]
  · rw [if_neg h]
    by_cases h2 : j < p + q
    · rw [if_pos h2, if_pos (by omega), List.getD_eq_getElem?_getD, List.getD_eq_getElem?_getD, List.getElem?_drop, Nat.add_sub_cancel' (by omega)]
    · rw [if_neg h2, if_neg (by omega)]
theorem slV_in (s : List UInt8) (n p : Nat) (h : p ≤ 65536) : slV s n (p : Int) = fil ((s.drop n).take p) p := by unfold slV; rw [if_neg (by omega), Int.toNat_natCast]
theorem slV_cat (s : List UInt8) (n p q : Nat) (h : p + q ≤ 65536) : slV s n ((p + q : Nat) : Int) = slV s n (p : Int) ++ slV s (n + p) (q : Int) := by
  rw [slV_in s n _ h, slV_in s n p (by omega), slV_in s (n + p) q (by omega), fil_cat, List.drop_drop]
theorem whole {x : Nat} (hx : x < W) (h1 : l1 x = 0) (h2 : l2 x = 0) (h3 : l3 x = 0) : x = l0 x := by
  have hM : l0 x < M := l0_lt x
  obtain ⟨e0, e1, e2, e3⟩ := of_parts (l0 x) hM
  have hW := M_W
  exact parts_inj x (l0 x) hx (by omega) e0.symm (by rw [h1, e1]) (by rw [h2, e2]) (by rw [h3, e3])
theorem remZ3 {a : Nat} : (a : Int).tmod 3000 = ((a % 3000 : Nat) : Int) := by rw [Int.tmod_eq_emod_of_nonneg (by omega)]; omega
set_option maxHeartbeats 4000000 in
theorem slices_walk (s : List UInt8) (x : Nat) (hx : x < W) (n k : Nat) (hn : n < 65536) (hk : k < 65536) (w : World) : Calls Try.prog 6 #[str s, U x, .int .u16 n, .int .u16 k] w fun e w' => e = .returned (.bool true) ∧ Below w.heap.size w w' := by
  have hM := M_big
  have hW := M_W
  have hwh := whole hx
  have hx0 := l0_lt x
  have gg : ∀ i, s.length ≤ 10000 → ∀ w, Calls Try.prog 17 #[str s, U x, Z i] w fun e w' => e = .returned (str (slV s x i)) ∧ Below w.heap.size w w' := fun i h => slice_any s (by omega) x hx i
  unfold U at gg ⊢
  generalize l0 x = x0 at *
  generalize l1 x = x1 at *
  generalize l2 x = x2 at *
  generalize l3 x = x3 at *
  refine inQ (J := Below w.heap.size w) (F := (· < w.heap.size)) Try.func6 (Below.refl _ _) fun a I => ?_
  by_cases hs : 10000 < s.length
  · refine goQ [lnO s, bO .gtr 3 (run_gtrZ (x := s.length) (y := 10000) (b := true) (decide_eq_true (by omega))), kC Try.func8 awake_any] (nonR w) I fun β a w1 I1 hb => ?_
    exact outQ (v := .bool true) I1 ⟨rfl, I1.hJ⟩
  have f0 := run_gtrZ (x := s.length) (y := 10000) (b := false) (decide_eq_false (by omega))
  by_cases h1 : x1 ≠ 0
  · refine goQ [lnO s, bO .gtr 3 f0, bO .neq 22 (run_neqB (x := x1) (y := 0) (b := true) (decide_eq_true (by omega))), kC Try.func8 awake_any] (nonR w) I fun β a w1 I1 hb => ?_
    exact outQ (v := .bool true) I1 ⟨rfl, I1.hJ⟩
  have f1 := run_neqB (x := x1) (y := 0) (b := false) (decide_eq_false (by omega))
  by_cases h2 : x2 ≠ 0
  · refine goQ [lnO s, bO .gtr 3 f0, bO .neq 22 f1, bO .neq 22 (run_neqB (x := x2) (y := 0) (b := true) (decide_eq_true (by omega))), kC Try.func8 awake_any] (nonR w) I fun β a w1 I1 hb => ?_
    exact outQ (v := .bool true) I1 ⟨rfl, I1.hJ⟩
  have f2 := run_neqB (x := x2) (y := 0) (b := false) (decide_eq_false (by omega))
  by_cases h3 : x3 ≠ 0
  · refine goQ [lnO s, bO .gtr 3 f0, bO .neq 22 f1, bO .neq 22 f2, bO .neq 22 (run_neqB (x := x3) (y := 0) (b := true) (decide_eq_true (by omega))), kC Try.func8 awake_any] (nonR w) I fun β a w1 I1 hb => ?_
    exact outQ (v := .bool true) I1 ⟨rfl, I1.hJ⟩
  have f3 := run_neqB (x := x3) (y := 0) (b := false) (decide_eq_false (by omega))
  by_cases h4 : 4611686018427387904 < x0
  · refine goQ [lnO s, bO .gtr 3 f0, bO .neq 22 f1, bO .neq 22 f2, bO .neq 22 f3, bO .gtr 22 (run_gtrB (x := x0) (y := 4611686018427387904) (b := true) (decide_eq_true (by omega))), kC Try.func8 awake_any] (nonR w) I fun β a w1 I1 hb => ?_
    exact outQ (v := .bool true) I1 ⟨rfl, I1.hJ⟩
  have f4 := run_gtrB (x := x0) (y := 4611686018427387904) (b := false) (decide_eq_false (by omega))
  obtain rfl := hwh (by omega) (by omega) (by omega)
  have c1 := fun w => cnv35 n hn w
  have c2 := fun w => cnv35 k hk w
  have r1 := run_remZ (x := n) (y := 3000) (z := (n % 3000 : Nat)) (by decide) remZ3
  have r2 := run_remZ (x := k) (y := 3000) (z := (k % 3000 : Nat)) (by decide) remZ3
  have hi : n % 3000 < 3000 := Nat.mod_lt _ (by decide)
  have hj : k % 3000 < 3000 := Nat.mod_lt _ (by decide)
  generalize n % 3000 = i at *
  generalize k % 3000 = j at *
  have ga := gg (i : Int) (by omega)
  have gc := gg ((i + j : Nat) : Int) (by omega)
  have hM2 : x + i < M := by unfold M; omega
  have gb := slice_any s (by omega) (x + i) (by omega) (j : Int)
  rw [U_small (x + i) hM2] at gb
  rw [slV_cat s x i j (by omega)] at gc
  have la : (slV s x (i : Int)).length = i := by rw [slV_in s x i (by omega), fil_tk]
  have lb : (slV s (x + i) (j : Int)).length = j := by rw [slV_in s (x + i) j (by omega), fil_tk]
  generalize slV s x (i : Int) = A at *
  generalize slV s (x + i) (j : Int) = D at *
  have ci := fun w => cnv64 i (by omega) w
  have hadd := run_addB (x := x) (y := i) (z := (x + i : Nat)) (by rw [wu (by omega) (by omega)]; omega)
  refine goQ [lnO s, bO .gtr 3 f0, bO .neq 22 f1, bO .neq 22 f2, bO .neq 22 f3, bO .gtr 22 f4, vO 35 3 c1, bO .rem 3 r1, vO 35 3 c2, bO .rem 3 r2] (nonR w) I fun β a w1 I1 hb => ?_
  refine dwQ 13 [kC Try.func17 ga, vO 3 22 ci, bO .add 22 hadd, dO 24 [0] (bd24_1 (x + i : Nat)), kC Try.func17 gb] (nonR w) PanOk.post I1 fun a2 w2 I2 => ?_
  refine goQ [lnO A, bO .eql 3 (run_eqlZ (x := A.length) (y := i) (b := true) (decide_eq_true (by omega))), lnO D, bO .eql 3 (run_eqlZ (x := D.length) (y := j) (b := true) (decide_eq_true (by omega))), bO .add 3 (run_addZ (x := i) (y := j) (z := (i + j : Nat)) (by rw [wzf (by omega) (by omega)]; omega)), kC Try.func17 gc, bO .add 9 (addS_run A D (by omega)), bO .eql 9 (eqS_run (a := A ++ D) (b := A ++ D) (q := true) (decide_eq_true rfl)), kC Try.func8 awake_any] (nonR w) I2 fun β a w3 I3 hb => ?_
  exact outQ (v := .bool true) I3 ⟨rfl, I3.hJ⟩
end Go.Proofs.Ytdbilbcpnhkbaaa
