/- The document's Assemble. -/
import Derived.Test.YtoceebhnhccfdaaDoorMc
import Derived.Test.YtoceebhnhccfdaaDoorMe
import Derived.Test.YtoceebhnhccfdaaDoorKq
namespace Go.Proofs.YtoceebhnhccfdaaDoor
open Go.RowKit Go.Sort Go.Shelf
set_option linter.unusedVariables false
set_option maxRecDepth 100000
theorem uxV_eq (s : List UInt8) {n : Nat} (hn : 0 < n) : uxV s n = if ((uxL s).getD []).length = n then ((uxL s).getD [], true) else ([], false) := by
  unfold uxV
  cases h : uxL s with
  | none =>
    have e : ¬ ((none : Option (List UInt8)).getD []).length = n := by simp only [Option.getD_none, List.length_nil]; omega
    rw [if_neg e]
    split <;> rfl
  | some t =>
    have hl := uxL_len s t h
    simp only [Option.getD_some]
    by_cases ht : t.length = n
    · rw [if_pos ht, if_pos (by omega)]
    · rw [if_neg ht, if_neg (by omega)]
theorem rdW_pos {s : List UInt8} {o : Nat} (ho : 0 < o) : rdW s o = ((uxL s).getD [], 0, (uxV s o).2) ∧ ((uxV s o).2 = true → (uxV s o).1 = (uxL s).getD []) := by
  rw [uxV_eq s ho]
  unfold rdW
  rw [if_pos ho]
  split
  · next h => exact ⟨by simp [h], fun _ => rfl⟩
  · next h => exact ⟨by simp [h], fun h => by cases h⟩
theorem rdW_op {s : List UInt8} (h : (opV nmN s).2 = true) : rdW s 0 = ([UInt8.ofNat (opV nmN s).1], ownN (opV nmN s).1, true) := by
  unfold rdW
  rw [if_neg (by omega), if_pos h]
theorem rdW_bad {s : List UInt8} (h : (opV nmN s).2 = false) (h4 : ¬ (s.length = 4 ∧ s.take 2 = [48, 120])) : (rdW s 0).2.2 = false := by
  unfold rdW
  rw [if_neg (by omega), h, if_neg (by simp)]
  simp only []
  unfold cutP
  by_cases h2 : ([48, 120] : List UInt8).length ≤ s.length ∧ s.take ([48, 120] : List UInt8).length = [48, 120]
  · rw [if_pos h2]
    have h2' : 2 ≤ s.length ∧ s.take 2 = [48, 120] := h2
    simp only [Bool.true_and, decide_eq_false_iff_not]
    intro hl
    refine h4 ⟨?_, h2'.2⟩
    change ((uxL (s.drop 2)).getD []).length = 1 at hl
    cases hu : uxL (s.drop 2) with
    | none => rw [hu] at hl; cases hl
    | some t =>
      rw [hu] at hl
      have := uxL_len _ _ hu
      simp only [Option.getD_some] at hl
      rw [List.length_drop] at this
      omega
  · rw [if_neg h2]
    simp
theorem rdW_raw {s : List UInt8} (h : (opV nmN s).2 = false) (h4 : s.length = 4 ∧ s.take 2 = [48, 120]) : rdW s 0 = ((uxL (s.drop 2)).getD [], 0, (uxV (s.drop 2) 1).2) ∧ ((uxV (s.drop 2) 1).2 = true → (uxV (s.drop 2) 1).1 = (uxL (s.drop 2)).getD []) := by
  rw [uxV_eq (s.drop 2) (n := 1) (by omega)]
  have hc : cutP s [48, 120] = (s.drop 2, true) := by
    unfold cutP
    rw [if_pos ⟨by simp; omega, h4.2⟩]
    rfl
  unfold rdW
  rw [if_neg (by omega), h, if_neg (by simp), hc]
  split
  · next h => exact ⟨by simp [h], fun _ => rfl⟩
  · next h => exact ⟨by simp [h], fun h => by cases h⟩
theorem gap_nat (x : UInt8) : gapB x = (decide (x.toNat = 32) || decide (x.toNat = 10)) := by
  unfold gapB
  have h1 : (x = 32) = (x.toNat = 32) := propext ⟨fun h => by rw [h]; rfl, fun h => UInt8.toNat_inj.1 h⟩
  have h2 : (x = 10) = (x.toNat = 10) := propext ⟨fun h => by rw [h]; rfl, fun h => UInt8.toNat_inj.1 h⟩
  simp only [h1, h2]
theorem drop_consR {c : List UInt8} {i : Nat} {b : UInt8} (h : c[i]? = some b) : c.drop i = b :: c.drop (i + 1) := by
  have hp := (List.getElem?_eq_some_iff.1 h).1
  rw [List.drop_eq_getElem_cons hp]
  congr 1
  exact (List.getElem?_eq_some_iff.1 h).2
theorem wd_gapR {c : List UInt8} {i : Nat} {b : UInt8} (h : c[i]? = some b) (hg : gapB b = true) : wd i (c.drop i) = wd (i + 1) (c.drop (i + 1)) := by
  have hd := drop_consR h
  have hw : wl (c.drop i) = 0 := by rw [hd]; unfold wl; rw [if_pos hg]
  rw [wd_ne (by rw [hd]; simp) i, hw, if_neg (by omega), List.nil_append, List.drop_drop]
theorem wd_wordR {c : List UInt8} {i m : Nat} {b : UInt8} (h : c[i]? = some b) (hg : gapB b = false) (hm : wl (c.drop i) = m) : 0 < m ∧ wd i (c.drop i) = (i, (c.drop i).take m) :: wd (i + m) (c.drop (i + m)) := by
  have hd := drop_consR h
  have hpos : 0 < m := by rw [← hm, hd]; unfold wl; rw [if_neg (by rw [hg]; simp)]; omega
  refine ⟨hpos, ?_⟩
  rw [wd_ne (by rw [hd]; simp) i, hm, if_pos hpos, List.drop_drop, List.cons_append, List.nil_append]
  congr 1
  have hwl := wl_le (c.drop i)
  rw [hm, List.length_drop] at hwl
  have hil := (List.getElem?_eq_some_iff.1 h).1
  rcases Nat.lt_or_ge (i + m) c.length with hl | hl
  · obtain ⟨x, hx, hgx⟩ := (wl_step (c := c) (p := i) (e := i + m) (by omega) (by omega)).2 (by omega) hl
    rw [wd_gapR hx hgx]
    rfl
  · rw [List.drop_eq_nil_of_le hl, List.drop_eq_nil_of_le (by omega), wd_nil, wd_nil]
/-- What follows a loop. -/
def ksLp : Code → List Ki → Option (List Ki)
  | .seq x y, ks => (ksLp x (Sum.inl y :: ks)).or (ksLp y ks)
  | .block id (.loop x), ks => some ks
  | .block id x, ks => ksLp x (Sum.inr id :: ks)
  | _, _ => none
abbrev cfB (x : Code) (tm : Vs) : Cf := cfQ ((ksLp x []).getD []) tm [] 0
abbrev raK : List Nat := [0, 2, 3, 4, 5, 6, 7]
abbrev raW (c l : List UInt8) (o i : Nat) : Vs := frm 111 [(0, Sum.inl (str c)), (2, Sum.inl (str [])), (3, Sum.inl (Z 0)), (4, Sum.inl (Z 0)), (5, Sum.inl (str l)), (6, Sum.inl (Z o)), (7, Sum.inl (Z i))]
abbrev rbK : List Nat := [0, 2, 3, 4, 5, 6, 7, 8]
abbrev rbW (c l : List UInt8) (o i k : Nat) : Vs := frm 111 [(0, Sum.inl (str c)), (2, Sum.inl (str [])), (3, Sum.inl (Z 0)), (4, Sum.inl (Z 0)), (5, Sum.inl (str l)), (6, Sum.inl (Z o)), (7, Sum.inl (Z i)), (8, Sum.inl (Z k))]
set_option maxHeartbeats 4000000 in
theorem as_rest {Q : Exit → Act → World → Prop} (w : World) (c l s : List UInt8) (i k o : Nat) (hi : i ≤ k) (hk : k ≤ c.length) (hc : c.length < 1000000) (hl : l.length < 100000000) (ho : o < 33) (hs : (c.take k).drop i = s)
    (hQ : (rdW s o).2.2 = true → ∀ β a w' u, SI (RowKit.Below w.heap.size w) (· < w.heap.size) [] β (cfC (bodyL Tryd.f18) (fillF (scrF 111 raK) u 0 (raW c (l ++ (rdW s o).1) (rdW s o).2.1 k)) [] 0) a w' → Q .normal a w')
    (hR : (rdW s o).2.2 = false → ∀ β a w' c', SI (RowKit.Below w.heap.size w) (· < w.heap.size) [] β c' a w' → resX Tryd.prog Tryd.f18 (c'.tm, c'.rows, c'.nx) = some (.tuple #[str [], Z i, Z 28]) → Q .ret a w')
    {β : Nat → Nat} {a : Act} {w1 : World} {u : Nat → Value} (I : SI (RowKit.Below w.heap.size w) (· < w.heap.size) [] β (cfB (bodyL Tryd.f18) (fillF (scrF 111 rbK) u 0 (rbW c l o i k))) a w1) :
    At Tryd.prog Q (cfB (bodyL Tryd.f18) (fillF (scrF 111 rbK) u 0 (rbW c l o i k))) a w1 := by
  have hcut : ∀ w, (Instr.sliceAt 9 (str c) (some (Z i)) (some (Z k)) none).run Tryd.prog w = .ok (str s) w := fun w => by rw [← hs]; exact both_run hi hk w
  have hsl : s.length ≤ c.length := by rw [← hs, List.length_drop, List.length_take]; omega
  have hop := rop_any s
  have hlt := opV_lt nmN s
  by_cases ho0 : 0 < o
  · obtain ⟨hrd, hb⟩ := rdW_pos (s := s) ho0
    rw [hrd] at hQ hR
    have hux := runhex_any s (by omega) o (by omega)
    have hul := ux_len s
    generalize (uxL s).getD [] = raw at *
    generalize uxV s o = uv at *
    generalize opV nmN s = ov at *
    obtain ⟨b, ok⟩ := uv
    obtain ⟨op, oo⟩ := ov
    simp only [] at hQ hR hux hop hb
    cases ok with
    | false =>
      refine goQ [sLH 9 hcut, kC Tryd.func11 hop, bO .gtr 3 (run_gtrZ (x := o) (y := 0) (b := true) (by simp; omega)), kC Tryd.func30 hux, uO .not (p := .bool false) (v := .bool true) run_not] (nonR w) I fun β2 a2 w2 I2 hb2 => ?_
      exact atR (hR rfl β2 a2 w2 _ I2 (by kernel_rfl))
    | true =>
      obtain rfl := hb rfl
      refine goQ [sLH 9 hcut, kC Tryd.func11 hop, bO .gtr 3 (run_gtrZ (x := o) (y := 0) (b := true) (by simp; omega)), kC Tryd.func30 hux, uO .not (p := .bool true) (v := .bool false) run_not, bO .add 9 (addS_run l b (by omega))] (nonR w) I fun β2 a2 w2 I2 hb2 => ?_
      obtain ⟨u', Iu⟩ := I2.scr (bodyL Tryd.f18) (scrF 111 raK) (raW c (l ++ b) 0 k) [] 0
      exact atN (hQ rfl β2 a2 w2 u' Iu)
  · obtain rfl : o = 0 := by omega
    cases hoo : (opV nmN s).2 with
    | true =>
      have hrd := rdW_op hoo
      rw [hrd] at hQ
      clear hR
      rw [hoo] at hop
      have hown := rown_any (opV nmN s).1 hlt
      generalize (opV nmN s).1 = op at *
      generalize ownN op = ow at *
      refine goQ [sLH 9 hcut, kC Tryd.func11 hop, bO .gtr 3 (run_gtrZ (x := (0 : Nat)) (y := 0) (b := false) (by simp))] (nonR w) I fun β2 a2 w2 I2 hb2 => ?_
      have hbs := bs1 (UInt8.ofNat op) w2
      rw [← u8n op (by omega)] at hbs
      have hcv := conv_new w2 [UInt8.ofNat op] (by simp)
      refine bslQ (t := 49) (n := 1) (ss := [(0, Sum.inl (b8 op))]) I2 hbs ?_
      have I3 := I2.alloc (nonR w) (.cells (bc [UInt8.ofNat op]).toArray 5) (.slice (some ⟨w2.heap.size, 0, none⟩) 1 1)
      refine cnvQ I3 hcv ?_
      have I4 := I3.same (str [UInt8.ofNat op])
      generalize UInt8.ofNat op = x at *
      refine goQ [bO .add 9 (addS_run l [x] (by rw [List.length_singleton]; omega)), kC Tryd.func31 hown] (nonR w) I4 fun β5 a5 w5 I5 hb5 => ?_
      obtain ⟨u', Iu⟩ := I5.scr (bodyL Tryd.f18) (scrF 111 raK) (raW c (l ++ [x]) ow k) [] 0
      exact atN (hQ rfl β5 a5 w5 u' Iu)
    | false =>
      rw [hoo] at hop
      by_cases h4 : s.length = 4
      · have h2l : ∀ w, (Instr.sliceAt 9 (str s) none (some (Z 2)) none).run Tryd.prog w = .ok (str (s.take 2)) w := fun w => to_run (k := 2) (by omega) w
        by_cases h2 : s.take 2 = [48, 120]
        · obtain ⟨hrd, hb⟩ := rdW_raw hoo ⟨h4, h2⟩
          rw [hrd] at hQ hR
          have hdr : ∀ w, (Instr.sliceAt 9 (str s) (some (Z 2)) none none).run Tryd.prog w = .ok (str (s.drop 2)) w := fun w => from_run (k := 2) (by omega) w
          have hux := runhex_any (s.drop 2) (by rw [List.length_drop]; omega) 1 (by omega)
          have hul := ux_len (s.drop 2)
          rw [List.length_drop] at hul
          generalize (opV nmN s).1 = op at *
          generalize s.take 2 = s2 at *
          generalize s.drop 2 = s3 at *
          generalize (uxL s3).getD [] = raw at *
          generalize uxV s3 1 = uv at *
          obtain ⟨b, ok⟩ := uv
          simp only [] at hQ hR hux hb
          cases ok with
          | false =>
            refine goQ [sLH 9 hcut, kC Tryd.func11 hop, bO .gtr 3 (run_gtrZ (x := (0 : Nat)) (y := 0) (b := false) (by simp)), lnO s, bO .neq 3 (run_neqZ (x := s.length) (y := 4) (b := false) (by simp [h4])), sT 9 h2l, bO .neq 9 (neS_run (a := s2) (b := [48, 120]) (q := false) (by simp [h2])), sO 9 hdr, kC Tryd.func30 hux, uO .not (p := .bool false) (v := .bool true) run_not] (nonR w) I fun β2 a2 w2 I2 hb2 => ?_
            exact atR (hR rfl β2 a2 w2 _ I2 (by kernel_rfl))
          | true =>
            obtain rfl := hb rfl
            refine goQ [sLH 9 hcut, kC Tryd.func11 hop, bO .gtr 3 (run_gtrZ (x := (0 : Nat)) (y := 0) (b := false) (by simp)), lnO s, bO .neq 3 (run_neqZ (x := s.length) (y := 4) (b := false) (by simp [h4])), sT 9 h2l, bO .neq 9 (neS_run (a := s2) (b := [48, 120]) (q := false) (by simp [h2])), sO 9 hdr, kC Tryd.func30 hux, uO .not (p := .bool true) (v := .bool false) run_not, bO .add 9 (addS_run l b (by omega))] (nonR w) I fun β2 a2 w2 I2 hb2 => ?_
            obtain ⟨u', Iu⟩ := I2.scr (bodyL Tryd.f18) (scrF 111 raK) (raW c (l ++ b) 0 k) [] 0
            exact atN (hQ rfl β2 a2 w2 u' Iu)
        · have hrd := rdW_bad hoo (fun h => h2 h.2)
          generalize (opV nmN s).1 = op at *
          generalize s.take 2 = s2 at *
          refine goQ [sLH 9 hcut, kC Tryd.func11 hop, bO .gtr 3 (run_gtrZ (x := (0 : Nat)) (y := 0) (b := false) (by simp)), lnO s, bO .neq 3 (run_neqZ (x := s.length) (y := 4) (b := false) (by simp [h4])), sT 9 h2l, bO .neq 9 (neS_run (a := s2) (b := [48, 120]) (q := true) (by simp [h2]))] (nonR w) I fun β2 a2 w2 I2 hb2 => ?_
          exact atR (hR hrd β2 a2 w2 _ I2 (by kernel_rfl))
      · have hrd := rdW_bad hoo (fun h => h4 h.1)
        generalize (opV nmN s).1 = op at *
        refine goQ [sLH 9 hcut, kC Tryd.func11 hop, bO .gtr 3 (run_gtrZ (x := (0 : Nat)) (y := 0) (b := false) (by simp)), lnO s, bO .neq 3 (run_neqZ (x := s.length) (y := 4) (b := true) (by simp; omega))] (nonR w) I fun β2 a2 w2 I2 hb2 => ?_
        exact atR (hR hrd β2 a2 w2 _ I2 (by kernel_rfl))
set_option maxHeartbeats 4000000 in
theorem rassemble_any (c : List UInt8) (hc : c.length < 1000000) (w : World) : Calls Tryd.prog 18 #[str c] w fun e w' => e = .returned (.tuple #[str (asV c).1, Z ((asV c).2.1 : Nat), Z ((asV c).2.2 : Nat)]) ∧ RowKit.Below w.heap.size w w' := by
  refine inQ (J := RowKit.Below w.heap.size w) (F := (· < w.heap.size)) Tryd.func18 (RowKit.Below.refl _ _) fun a I => ?_
  refine goQ [] (nonR w) I fun β a w3 I3 hb => ?_
  let St : Nat → Act → World → Prop := fun k a w' => ∃ (i : Nat) (l : List UInt8) (o : Nat) (β : Nat → Nat) (u : Nat → Value), k = c.length - i ∧ i ≤ c.length ∧ l.length ≤ 33 * i ∧ o < 33 ∧ asF (wd i (c.drop i)) l o = asF (wd 0 c) [] 0 ∧ SI (RowKit.Below w.heap.size w) (· < w.heap.size) [] β (cfC (bodyL Tryd.f18) (fillF (scrF 111 raK) u 0 (raW c l o i)) [] 0) a w'
  refine lpM (bodyL Tryd.f18) St c.length ?_ ?_
  · obtain ⟨u, Iu⟩ := I3.scr (bodyL Tryd.f18) (scrF 111 raK) (raW c [] 0 0) [] 0
    exact ⟨0, [], 0, β, u, by omega, Nat.zero_le _, by simp, by decide, rfl, Iu⟩
  rintro k a4 w4 ⟨i, l, o, β4, u, rfl, hi, hll, ho, hI, I4⟩
  refine wp_cfC (tm := fillF (scrF 111 raK) u 0 (raW c l o i)) (rows := []) (nx := 0) ?_
  rcases Nat.lt_or_ge i c.length with hil | hil
  · obtain ⟨x, hx⟩ : ∃ x, c[i]? = some x := ⟨_, List.getElem?_eq_getElem hil⟩
    cases hg : gapB x with
    | true =>
      have hI2 := wd_gapR hx hg
      rw [hI2] at hI
      rw [gap_nat] at hg
      have hg' : x.toNat = 32 ∨ x.toNat = 10 := by simpa using hg
      rcases hg' with h32 | h10
      · have hx32 : x = 32 := UInt8.toNat_inj.1 h32
        refine goQ [lnO c, bO .lss 3 (run_lssZ (x := i) (y := c.length) (b := true) (by simp; omega)), iO 9 (p := str c) (i := Z i) (v := b8 x.toNat) (idx_run hx), bO .eql 5 (eqB_run (x := x) (y := 32) (q := true) (by simp [hx32])), bO .add 3 (run_addZ (x := i) (y := 1) (z := (i + 1 : Nat)) (by rw [wz (by omega) (by omega)]; omega))] (nonR w) I4 fun β5 a5 w5 I5 hb5 => ?_
        obtain ⟨u', Iu⟩ := I5.scr (bodyL Tryd.f18) (scrF 111 raK) (raW c l o (i + 1)) [] 0
        exact endL ⟨c.length - (i + 1), by omega, i + 1, l, o, β5, u', rfl, hil, by omega, ho, hI, Iu⟩
      · have hx10 : x = 10 := UInt8.toNat_inj.1 h10
        refine goQ [lnO c, bO .lss 3 (run_lssZ (x := i) (y := c.length) (b := true) (by simp; omega)), iO 9 (p := str c) (i := Z i) (v := b8 x.toNat) (idx_run hx), bO .eql 5 (eqB_run (x := x) (y := 32) (q := false) (by simp [hx10])), iO 9 (p := str c) (i := Z i) (v := b8 x.toNat) (idx_run hx), bO .eql 5 (eqB_run (x := x) (y := 10) (q := true) (by simp [hx10])), bO .add 3 (run_addZ (x := i) (y := 1) (z := (i + 1 : Nat)) (by rw [wz (by omega) (by omega)]; omega))] (nonR w) I4 fun β5 a5 w5 I5 hb5 => ?_
        obtain ⟨u', Iu⟩ := I5.scr (bodyL Tryd.f18) (scrF 111 raK) (raW c l o (i + 1)) [] 0
        exact endL ⟨c.length - (i + 1), by omega, i + 1, l, o, β5, u', rfl, hil, by omega, ho, hI, Iu⟩
    | false =>
      obtain ⟨m, hm⟩ : ∃ m, wl (c.drop i) = m := ⟨_, rfl⟩
      obtain ⟨hm0, hwd⟩ := wd_wordR hx hg hm
      rw [hwd] at hI
      simp only [asF] at hI
      have hwl := wl_le (c.drop i)
      rw [hm, List.length_drop] at hwl
      have hsE : (c.take (i + m)).drop i = (c.drop i).take m := by rw [List.drop_take, Nat.add_sub_cancel_left]
      have hok := rdW_ok (s := (c.drop i).take m) ho
      have hnx := rdW_next ((c.drop i).take m) o
      have hgn := gap_nat x
      rw [hg] at hgn
      have hgn' : ¬ x.toNat = 32 ∧ ¬ x.toNat = 10 := by simpa using hgn.symm
      have n32 : ¬ x = 32 := fun h => hgn'.1 (by rw [h]; rfl)
      have n10 : ¬ x = 10 := fun h => hgn'.2 (by rw [h]; rfl)
      refine goQ [lnO c, bO .lss 3 (run_lssZ (x := i) (y := c.length) (b := true) (by simp; omega)), iO 9 (p := str c) (i := Z i) (v := b8 x.toNat) (idx_run hx), bO .eql 5 (eqB_run (x := x) (y := 32) (q := false) (by simp [n32])), iO 9 (p := str c) (i := Z i) (v := b8 x.toNat) (idx_run hx), bO .eql 5 (eqB_run (x := x) (y := 10) (q := false) (by simp [n10]))] (nonR w) I4 fun β5 a5 w5 I5 hb5 => ?_
      let S2 : Nat → Act → World → Prop := fun k a w' => ∃ (e : Nat) (β : Nat → Nat) (u : Nat → Value), k = i + m - e ∧ i ≤ e ∧ e ≤ i + m ∧ SI (RowKit.Below w.heap.size w) (· < w.heap.size) [] β (cfC (loop2 Tryd.f18) (fillF (scrF 111 rbK) u 0 (rbW c l o i e)) [] 0) a w'
      refine lpM (loop2 Tryd.f18) S2 m ?_ ?_
      · obtain ⟨u', Iu⟩ := I5.scr (loop2 Tryd.f18) (scrF 111 rbK) (rbW c l o i i) [] 0
        exact ⟨i, β5, u', by omega, Nat.le_refl _, by omega, Iu⟩
      rintro k a6 w6 ⟨e, β6, u6, rfl, hie, hem, I6⟩
      refine wp_cfC (tm := fillF (scrF 111 rbK) u6 0 (rbW c l o i e)) (rows := []) (nx := 0) ?_
      have hws := wl_step hie (show e - i ≤ wl (c.drop i) by rw [hm]; omega)
      rw [hm] at hws
      by_cases hlt : e - i < m
      · obtain ⟨y, hy, hgy⟩ := hws.1.1 hlt
        have hyn := gap_nat y
        rw [hgy] at hyn
        have hyn' : ¬ y.toNat = 32 ∧ ¬ y.toNat = 10 := by simpa using hyn.symm
        have hel := (List.getElem?_eq_some_iff.1 hy).1
        refine goQ [lnO c, bO .lss 3 (run_lssZ (x := e) (y := c.length) (b := true) (by simp; omega)), iO 9 (p := str c) (i := Z e) (v := b8 y.toNat) (idx_run hy), bO .neq 5 (run_neq8 (x := y.toNat) (y := 32) (b := true) (by simp; omega)), iO 9 (p := str c) (i := Z e) (v := b8 y.toNat) (idx_run hy), bO .neq 5 (run_neq8 (x := y.toNat) (y := 10) (b := true) (by simp; omega)), bO .add 3 (run_addZ (x := e) (y := 1) (z := (e + 1 : Nat)) (by rw [wz (by omega) (by omega)]; omega))] (nonR w) I6 fun β7 a7 w7 I7 hb7 => ?_
        obtain ⟨u', Iu⟩ := I7.scr (loop2 Tryd.f18) (scrF 111 rbK) (rbW c l o i (e + 1)) [] 0
        exact endL ⟨i + m - (e + 1), by omega, e + 1, β7, u', rfl, by omega, by omega, Iu⟩
      · obtain rfl : e = i + m := by omega
        have hfin : ∀ (β : Nat → Nat) (a : Act) (w' : World) (c' : Cf), SI (RowKit.Below w.heap.size w) (· < w.heap.size) [] β c' a w' → resX Tryd.prog Tryd.f18 (c'.tm, c'.rows, c'.nx) = some (.tuple #[str [], Z i, Z 28]) → (rdW ((c.drop i).take m) o).2.2 = false → bodyPost Tryd.prog Tryd.f18 (fun e w' => e = .returned (.tuple #[str (asV c).1, Z ((asV c).2.1 : Nat), Z ((asV c).2.2 : Nat)]) ∧ RowKit.Below w.heap.size w w') .ret a w' := fun β a w' c' I hr hb => by
          rw [if_neg (by rw [hb]; simp)] at hI
          have hV : asV c = ([], i, 28) := by unfold asV; rw [← hI]
          rw [hV]
          exact retV (v := .tuple #[str [], Z i, Z 28]) I ⟨rfl, I.hJ⟩ (hr := hr)
        have hnext : (rdW ((c.drop i).take m) o).2.2 = true → ∀ β a w' u, SI (RowKit.Below w.heap.size w) (· < w.heap.size) [] β (cfC (bodyL Tryd.f18) (fillF (scrF 111 raK) u 0 (raW c (l ++ (rdW ((c.drop i).take m) o).1) (rdW ((c.drop i).take m) o).2.1 (i + m))) [] 0) a w' → ∃ j, j < c.length - i ∧ St j a w' := fun hb β a w' u I => by
          rw [if_pos hb] at hI
          exact ⟨c.length - (i + m), by omega, i + m, _, _, β, u, rfl, by omega, by rw [List.length_append]; have := hok hb; omega, hnx, hI, I⟩
        rcases Nat.lt_or_ge (i + m) c.length with hel | hel
        · obtain ⟨y, hy, hgy⟩ := hws.2 (by omega) hel
          rw [gap_nat] at hgy
          have hyn' : y.toNat = 32 ∨ y.toNat = 10 := by simpa using hgy
          rcases hyn' with h32 | h10
          · refine goQ [lnO c, bO .lss 3 (run_lssZ (x := (i + m : Nat)) (y := c.length) (b := true) (by simp; omega)), iO 9 (p := str c) (i := Z (i + m : Nat)) (v := b8 y.toNat) (idx_run hy), bO .neq 5 (run_neq8 (x := y.toNat) (y := 32) (b := false) (by simp [h32]))] (nonR w) I6 fun β7 a7 w7 I7 hb7 => ?_
            refine endE 2 ?_
            obtain ⟨u7, Iu⟩ := I7.scr .skip (scrF 111 rbK) (rbW c l o i (i + m)) [] 0
            refine at_code (as_rest w c l _ i (i + m) o (by omega) (by omega) hc (by omega) ho hsE ?_ ?_ (Iu.cf rfl rfl rfl))
            · exact fun hb β a w' u I => hnext hb β a w' u I
            · exact fun hb β a w' c' I hr => retQ_ok (hfin β a w' c' I hr hb)
          · refine goQ [lnO c, bO .lss 3 (run_lssZ (x := (i + m : Nat)) (y := c.length) (b := true) (by simp; omega)), iO 9 (p := str c) (i := Z (i + m : Nat)) (v := b8 y.toNat) (idx_run hy), bO .neq 5 (run_neq8 (x := y.toNat) (y := 32) (b := true) (by simp; omega)), iO 9 (p := str c) (i := Z (i + m : Nat)) (v := b8 y.toNat) (idx_run hy), bO .neq 5 (run_neq8 (x := y.toNat) (y := 10) (b := false) (by simp [h10]))] (nonR w) I6 fun β7 a7 w7 I7 hb7 => ?_
            refine endE 2 ?_
            obtain ⟨u7, Iu⟩ := I7.scr .skip (scrF 111 rbK) (rbW c l o i (i + m)) [] 0
            refine at_code (as_rest w c l _ i (i + m) o (by omega) (by omega) hc (by omega) ho hsE ?_ ?_ (Iu.cf rfl rfl rfl))
            · exact fun hb β a w' u I => hnext hb β a w' u I
            · exact fun hb β a w' c' I hr => retQ_ok (hfin β a w' c' I hr hb)
        · refine goQ [lnO c, bO .lss 3 (run_lssZ (x := (i + m : Nat)) (y := c.length) (b := false) (by simp; omega))] (nonR w) I6 fun β7 a7 w7 I7 hb7 => ?_
          refine endE 2 ?_
          obtain ⟨u7, Iu⟩ := I7.scr .skip (scrF 111 rbK) (rbW c l o i (i + m)) [] 0
          refine at_code (as_rest w c l _ i (i + m) o (by omega) (by omega) hc (by omega) ho hsE ?_ ?_ (Iu.cf rfl rfl rfl))
          · exact fun hb β a w' u I => hnext hb β a w' u I
          · exact fun hb β a w' c' I hr => retQ_ok (hfin β a w' c' I hr hb)
  · obtain rfl : i = c.length := by omega
    rw [List.drop_length, wd_nil] at hI
    simp only [asF] at hI
    by_cases h0 : 0 < o
    · have hV : asV c = ([], c.length, 28) := by unfold asV; rw [← hI]; simp [h0]
      rw [hV]
      refine goQ [lnO c, bO .lss 3 (run_lssZ (x := c.length) (y := c.length) (b := false) (by simp))] (nonR w) I4 fun β5 a5 w5 I5 hb5 => ?_
      refine endE 0 ?_
      refine goQ [bO .gtr 3 (run_gtrZ (x := o) (y := 0) (b := true) (by simp; omega)), lnO c] (nonR w) (I5.exit _) fun β6 a6 w6 I6 hb6 => ?_
      exact outQ (v := .tuple #[str [], Z c.length, Z 28]) I6 ⟨rfl, I6.hJ⟩
    · have hV : asV c = (l, 0, 0) := by unfold asV; rw [← hI]; simp [h0]
      rw [hV]
      refine goQ [lnO c, bO .lss 3 (run_lssZ (x := c.length) (y := c.length) (b := false) (by simp))] (nonR w) I4 fun β5 a5 w5 I5 hb5 => ?_
      refine endE 0 ?_
      refine goQ [bO .gtr 3 (run_gtrZ (x := o) (y := 0) (b := false) (by simp; omega))] (nonR w) (I5.exit _) fun β6 a6 w6 I6 hb6 => ?_
      exact outQ (v := .tuple #[str l, Z 0, Z 0]) I6 ⟨rfl, I6.hJ⟩
end Go.Proofs.YtoceebhnhccfdaaDoor
