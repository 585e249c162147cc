/- Memories that grow, and pieces of texts: the document's; the chapter's examples. -/
import Derived.Test.YtdbilbcpnhkbaaaNf
namespace Go.Proofs.Ytdbilbcpnhkbaaa
open Go.RowKit Go.Sort Go.Shelf
set_option linter.unusedVariables false
set_option maxRecDepth 100000
theorem bc_len (l : List UInt8) : (bc l).length = l.length := by simp [bc]
theorem mk_bytes (n : Nat) (hn : n ≤ 1000000) (w : World) : (Instr.makeSlice 47 (Z n) (Z n)).run Try.prog w = .ok (.slice (some ⟨w.heap.size, 0, none⟩) n n) (w.alloc (.cells (bc (zr n)).toArray 5)) := by
  obtain ⟨i, hi, hz, h1, h2⟩ := hI5
  have hr := run_make (P := Try.prog) w 47 5 i (.int .u8 0) Try.underlying47 hi hz .i64 .i64 n n (by omega) (Int.le_refl _) (by rw [h2]; omega) (by omega)
  simp only [Int.toNat_natCast] at hr
  rw [hr]
  congr 3
  apply Array.ext
  · rw [size_madeCells, h1]; simp [bc]
  · intro j hj1 hj2
    rw [size_madeCells, h1] at hj1
    simp [madeCells, bc, Value.cells, Nat.mod_one]
theorem conv_row {w : World} {g : Nat} {l : List UInt8} (hl : l.length ≤ 1000000) (h : w.heap[g]? = some (.cells (bc l).toArray 5)) : (convert 47 9 (.slice (some ⟨g, 0, none⟩) l.length l.length)).run Try.prog w = .ok (str l) w := by
  refine text_own (b := g) (l := l) ⟨by simp [bc], .inr ⟨g, l.length, (bc l).toArray, rfl, Nat.le_refl _, h, Nat.le_refl _, ?_, by simp [bc], ?_⟩⟩
  · simp only [maxLen]; omega
  · simp only [Nat.mul_one]
    rw [List.take_of_length_le (by simp [bc])]
abbrev byJ (w : World) (g : Nat) (l : List UInt8) (w' : World) : Prop := Below w.heap.size w w' ∧ w'.heap[g]? = some (.cells (bc l).toArray 5)
theorem byR (w : World) (g : Nat) (l : List UInt8) : Rsrc (byJ w g l) (clF w g) := (nonR w).lay g _
set_option maxHeartbeats 4000000 in
theorem rgrow_any (m : List UInt8) (hm : m.length ≤ 900000) (x n : Nat) (hx : x < W) (hn : n < W) (w : World) : Calls Try.prog 10 #[str m, U x, U n] w fun e w' => e = .returned (.tuple #[str (growV m x n).1, Z (growV m x n).2.1, Z (growV m x n).2.2]) ∧ Below w.heap.size w w' := by
  have hM := M_big
  have hW := M_W
  have heq := fun b h => eqU_run hn (show 0 < W by omega) (b := b) h
  have hadd := radd_any x n hx hn
  have hs : x + n < W → addW x n = x + n := fun h => Nat.mod_eq_of_lt h
  have hlt := addW_lt x n
  have hcmp := rcmp_any (addW x n) 4096 hlt (by omega)
  rw [U_small 4096 (by omega)] at hcmp
  rw [U0] at heq
  have hov : ovW x n = decide (W ≤ x + n) := rfl
  have hsm : addW x n < M → l0 (addW x n) = addW x n := fun h => (of_parts _ h).1
  generalize ovW x n = ov at *
  have hcv : cmpN (addW x n) 4096 = if addW x n < 4096 then -1 else if 4096 < addW x n then 1 else 0 := rfl
  generalize cmpN (addW x n) 4096 = cv at *
  unfold U at hadd hcmp heq ⊢
  generalize l0 (addW x n) = s0 at *
  generalize l1 (addW x n) = s1 at *
  generalize l2 (addW x n) = s2 at *
  generalize l3 (addW x n) = s3 at *
  generalize addW x n = s at *
  generalize l0 n = n0 at *
  generalize l1 n = n1 at *
  generalize l2 n = n2 at *
  generalize l3 n = n3 at *
  generalize l0 x = x0 at *
  generalize l1 x = x1 at *
  generalize l2 x = x2 at *
  generalize l3 x = x3 at *
  refine inQ (J := Below w.heap.size w) (F := (· < w.heap.size)) Try.func10 (Below.refl _ _) fun a I => ?_
  by_cases h0 : n = 0
  · refine goQ [dO 24 [] bd24_0, bO .eql 24 (heq true (decide_eq_true h0))] (nonR w) I fun β a w1 I1 hb => ?_
    exact outQ (v := .tuple #[str m, Z 0, Z 0]) I1 ⟨by unfold growV; rw [if_pos h0], I1.hJ⟩
  by_cases h1 : W ≤ x + n
  · rw [decide_eq_true h1] at hov
    subst hov
    refine goQ [dO 24 [] bd24_0, bO .eql 24 (heq false (decide_eq_false h0)), kC Try.func24 hadd] (nonR w) I fun β a w1 I1 hb => ?_
    exact outQ (v := .tuple #[str m, Z 0, Z 3]) I1 ⟨by unfold growV; rw [if_neg h0, if_pos (by omega)], I1.hJ⟩
  rw [decide_eq_false h1] at hov
  subst hov
  obtain rfl := hs (by omega)
  by_cases h2 : 4096 < x + n
  · refine goQ [dO 24 [] bd24_0, bO .eql 24 (heq false (decide_eq_false h0)), kC Try.func24 hadd, dO 24 [0, 1, 2, 3] (bd24_4 4096 0 0 0), kC Try.func25 hcmp, bO .gtr 3 (run_gtrZ (x := cv) (y := 0) (b := true) (by rw [hcv, if_neg (by omega), if_pos h2]; rfl))] (nonR w) I fun β a w1 I1 hb => ?_
    exact outQ (v := .tuple #[str m, Z 0, Z 3]) I1 ⟨by unfold growV; rw [if_neg h0, if_pos h2], I1.hJ⟩
  refine goQ [dO 24 [] bd24_0, bO .eql 24 (heq false (decide_eq_false h0)), kC Try.func24 hadd, dO 24 [0, 1, 2, 3] (bd24_4 4096 0 0 0), kC Try.func25 hcmp, bO .gtr 3 (run_gtrZ (x := cv) (y := 0) (b := false) (by rw [hcv, if_neg h2]; split <;> rfl))] (nonR w) I fun β a w1 I1 hb => ?_
  obtain rfl := hsm (by omega)
  have e : growV m x n = (fil m (32 * (wds ((x + n : Nat) : Int)).toNat), cst (wds ((fil m (32 * (wds ((x + n : Nat) : Int)).toNat)).length : Int)) - cst (wds (m.length : Int)), 0) := by unfold growV; rw [if_neg h0, if_neg h2]
  rw [e]
  have hws := rwords_any ((x + n : Nat) : Int) (by omega) (by omega)
  have hbw := wds_bd (n := ((x + n : Nat) : Int)) (by omega) (by omega)
  obtain ⟨wk, hwk⟩ : ∃ k : Nat, wds ((x + n : Nat) : Int) = k := ⟨_, (Int.toNat_of_nonneg hbw.1).symm⟩
  rw [hwk] at hws hbw ⊢
  rw [Int.toNat_natCast]
  obtain ⟨sz, hsz⟩ : ∃ k : Nat, 32 * wk = k := ⟨_, rfl⟩
  rw [hsz]
  have hfl := fil_len m sz
  have hmul := run_mulZ (x := 32) (y := wk) (z := sz) (by rw [wzf (by omega) (by omega)]; omega)
  generalize x + n = s at *
  by_cases h3 : sz ≤ m.length
  · refine goQ [vO 22 3 (cnv46 s (by omega)), kC Try.func12 hws, bO .mul 3 hmul, lnO m, bO .leq 3 (run_leqZ (x := sz) (y := m.length) (b := true) (decide_eq_true (by omega)))] (nonR w) I1 fun β a w1 I1 hb => ?_
    exact outQ (v := .tuple #[str m, Z 0, Z 0]) I1 ⟨by rw [fil_ge m sz h3, Int.sub_self], I1.hJ⟩
  have hwm := rwords_any m.length (by omega) (by omega)
  have hwg := rwords_any sz (by omega) (by omega)
  have elen : (fil m sz).length = sz := by omega
  rw [elen]
  unfold fil
  have hlz : (zr (sz - m.length)).length ≤ 1000000 := by rw [List.length_replicate]; omega
  generalize wds (m.length : Int) = wm at *
  generalize wds (sz : Int) = wg at *
  have hcm := rcost_any wm
  have hcg := rcost_any wg
  have hbm := cst_bd wm
  have hbg := cst_bd wg
  generalize cst wm = cm at *
  generalize cst wg = cg at *
  obtain ⟨k, hk⟩ : ∃ k, sz - m.length = k := ⟨_, rfl⟩
  rw [hk] at hlz ⊢
  refine goQ [vO 22 3 (cnv46 s (by omega)), kC Try.func12 hws, bO .mul 3 hmul, lnO m, bO .leq 3 (run_leqZ (x := sz) (y := m.length) (b := false) (decide_eq_false (by omega))), kC Try.func12 hwg, kC Try.func14 hcg, lnO m, kC Try.func12 hwm, kC Try.func14 hcm, bO .sub 3 (run_subZ (x := cg) (y := cm) (z := cg - cm) (by rw [wzf (by omega) (by omega)])), lnO m, bO .sub 3 (run_subZ (x := sz) (y := m.length) (z := k) (by rw [wzf (by omega) (by omega)]; omega))] (nonR w) I1 fun β2 a2 w2 I2 hb2 => ?_
  refine mksQ (t := 47) (x := Sum.inl (Z k)) (y := Sum.inl (Z k)) I2 (mk_bytes k (by omega) w2) ?_
  have I3 := I2.lay (nonR w) (.cells (bc (zr k)).toArray 5) (.slice (some ⟨w2.heap.size, 0, none⟩) k k)
  generalize w2.heap.size = g at *
  generalize w2.alloc (.cells (bc (zr k)).toArray 5) = w3 at *
  have ek : (zr k).length = k := by rw [List.length_replicate]
  have hcv2 := conv_row (l := zr k) (by omega) I3.hJ.2
  rw [ek] at hcv2
  refine cnvQ I3 hcv2 ?_
  generalize zr k = z at *
  refine goQ [bO .add 9 (addS_run m z (by omega))] (byR w g z) (I3.same (str z)) fun β4 a4 w4 I4 hb4 => ?_
  exact outQ (v := .tuple #[str (m ++ z), Z (cg - cm), Z 0]) I4 ⟨rfl, I4.hJ.1⟩
end Go.Proofs.Ytdbilbcpnhkbaaa
