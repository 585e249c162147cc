/- CodesWhole. -/
import Derived.Test.YtoceebhnhccfdaaDoorMc
namespace Go.Proofs.YtoceebhnhccfdaaDoor
open Go.RowKit Go.Sort Go.Shelf
set_option linter.unusedVariables false
set_option maxRecDepth 100000
/-- How far the operations of a code reach. -/
def endN : Nat → List UInt8 → Nat
  | 0, _ => 0
  | _ + 1, [] => 0
  | f + 1, b :: r => 1 + ownN b.toNat + endN f (r.drop (ownN b.toNat))
theorem endN_nil (f : Nat) : endN f [] = 0 := by cases f <;> rfl
theorem endN_fuel : ∀ (f g : Nat) (l : List UInt8), l.length ≤ f → l.length ≤ g → endN f l = endN g l
  | 0, g, l, h, _ => by
    obtain rfl : l = [] := List.length_eq_zero_iff.1 (by omega)
    cases g <;> rfl
  | f + 1, 0, l, _, h => by
    obtain rfl : l = [] := List.length_eq_zero_iff.1 (by omega)
    rfl
  | f + 1, g + 1, [], _, _ => rfl
  | f + 1, g + 1, b :: r, h1, h2 => by
    simp only [endN]
    rw [endN_fuel f g _ (by rw [List.length_drop]; simp only [List.length_cons] at h1; omega) (by rw [List.length_drop]; simp only [List.length_cons] at h2; omega)]
theorem endN_wh : ∀ (f : Nat) (l : List UInt8), l.length ≤ f → endN f l = l.length → wh f l = true
  | 0, l, _, _ => rfl
  | f + 1, [], _, _ => rfl
  | f + 1, b :: r, h, he => by
    simp only [endN, List.length_cons] at he h
    simp only [wh, Bool.and_eq_true, decide_eq_true_eq]
    have hle : ownN b.toNat ≤ r.length := by omega
    exact ⟨hle, endN_wh f _ (by rw [List.length_drop]; omega) (by rw [List.length_drop]; omega)⟩
theorem endN_step {a : List UInt8} {p : Nat} {b : UInt8} (h : a[p]? = some b) : endN a.length (a.drop p) = 1 + ownN b.toNat + endN a.length (a.drop (p + 1 + ownN b.toNat)) := by
  have hp := (List.getElem?_eq_some_iff.1 h).1
  have hd : a.drop p = b :: a.drop (p + 1) := by
    rw [List.drop_eq_getElem_cons hp]
    congr 1
    exact (List.getElem?_eq_some_iff.1 h).2
  obtain ⟨f, hf⟩ : ∃ f, a.length = f + 1 := ⟨a.length - 1, by omega⟩
  rw [hd, hf]
  simp only [endN]
  rw [List.drop_drop, endN_fuel f (f + 1) _ (by rw [List.length_drop]; omega) (by rw [List.length_drop]; omega)]
abbrev whK : List Nat := [0, 1, 4, 5]
abbrev whW (a b : List UInt8) (i : Nat) : Vs := frm 70 [(0, Sum.inl (str a)), (1, Sum.inl (str b)), (4, Sum.inl (.bool false)), (5, Sum.inl (Z i))]
theorem bs_0 (w : World) : (Instr.buildSlice 36 0 #[]).run Tryd.prog w = .ok (.slice (some ⟨w.heap.size, 0, none⟩) 0 0) (w.alloc (.cells (blC []) 4)) := by kernel_rfl
set_option maxHeartbeats 4000000 in
theorem whole_walk {w : World} (hT : Tb w) (a b : List UInt8) : Calls Tryd.prog 7 #[str a, str b] w fun e w' => e = .returned (.bool true) ∧ RowKit.Below w.heap.size w w' := by
  have h16 : ∀ w', Tb w' → Calls Tryd.prog 16 #[] w' fun e w'' => e = .returned (.bool true) ∧ RowKit.Below w'.heap.size w' w'' := fun w' h => awake_any h
  have hTT : ∀ w', RowKit.Below w.heap.size w w' → Tb w' := fun _ hb => hT.below hb
  refine inQ (J := RowKit.Below w.heap.size w) (F := (· < w.heap.size)) Tryd.func7 (RowKit.Below.refl _ _) fun ac I => ?_
  by_cases ha : 1000 < a.length
  · refine goT (T := Tb) [lnO a, bO .gtr 3 (run_gtrZ (x := a.length) (y := 1000) (b := true) (by simp; omega)), cA Tryd.func16 h16] (nonR w) hTT I fun β a w1 I1 hb => ?_
    exact outQ (v := .bool true) I1 ⟨rfl, I1.hJ⟩
  by_cases hb : 1000 < b.length
  · refine goT (T := Tb) [lnO a, bO .gtr 3 (run_gtrZ (x := a.length) (y := 1000) (b := false) (by simp; omega)), lnO b, bO .gtr 3 (run_gtrZ (x := b.length) (y := 1000) (b := true) (by simp; omega)), cA Tryd.func16 h16] (nonR w) hTT I fun β a w1 I1 hb => ?_
    exact outQ (v := .bool true) I1 ⟨rfl, I1.hJ⟩
  refine goQ [lnO a, bO .gtr 3 (run_gtrZ (x := a.length) (y := 1000) (b := false) (by simp; omega)), lnO b, bO .gtr 3 (run_gtrZ (x := b.length) (y := 1000) (b := false) (by simp; omega))] (nonR w) I fun β ac w1 I1 hb1 => ?_
  let St : Nat → Act → World → Prop := fun k ac w' => ∃ (i : Nat) (β : Nat → Nat) (u : Nat → Value), k = a.length - i ∧ i ≤ a.length + 33 ∧ i + endN a.length (a.drop i) = endN a.length a ∧ SI (RowKit.Below w.heap.size w) (· < w.heap.size) [] β (cfC (bodyL Tryd.f7) (fillF (scrF 70 whK) u 0 (whW a b i)) [] 0) ac w'
  refine lpM (bodyL Tryd.f7) St a.length ?_ ?_
  · obtain ⟨u', Iu⟩ := I1.scr (bodyL Tryd.f7) (scrF 70 whK) (whW a b 0) [] 0
    exact ⟨0, β, u', by omega, Nat.zero_le _, by simp, Iu⟩
  rintro k a4 w4 ⟨i, β4, u4, rfl, hi, hend, I4⟩
  refine wp_cfC (tm := fillF (scrF 70 whK) u4 0 (whW a b i)) (rows := []) (nx := 0) ?_
  rcases Nat.lt_or_ge i a.length with hil | hil
  · obtain ⟨x, hx⟩ : ∃ x, a[i]? = some x := ⟨_, List.getElem?_eq_getElem hil⟩
    have hxl := x.toNat_lt
    have hst := endN_step hx
    have how := ownN_lt x.toNat
    have hnext : ∀ (o : Nat), ownN x.toNat = o → ∀ (β5 : Nat → Nat) (u5 : Nat → Value) (a5 : Act) (w5 : World), SI (RowKit.Below w.heap.size w) (· < w.heap.size) [] β5 (cfC (bodyL Tryd.f7) (fillF (scrF 70 whK) u5 0 (whW a b (i + 1 + o))) [] 0) a5 w5 → ∃ j, j < a.length - i ∧ St j a5 w5 := fun o ho β5 u5 a5 w5 I5 => by
      subst ho
      exact ⟨a.length - (i + 1 + ownN x.toNat), by omega, i + 1 + ownN x.toNat, β5, u5, rfl, by omega, by omega, I5⟩
    by_cases h1 : 96 ≤ x.toNat
    · by_cases h2 : x.toNat ≤ 127
      · have ho : ownN x.toNat = x.toNat - 95 := by unfold ownN numN; rw [if_neg (by omega), if_pos (by omega)]
        refine goQ [lnO a, bO .lss 3 (run_lssZ (x := i) (y := a.length) (b := true) (by simp; omega)), iO 9 (p := str a) (i := Z i) (v := b8 x.toNat) (idx_run hx), bO .geq 5 (run_geq8 (x := x.toNat) (y := 96) (b := true) (by simp; omega)), iO 9 (p := str a) (i := Z i) (v := b8 x.toNat) (idx_run hx), bO .leq 5 (run_leq8 (x := x.toNat) (y := 127) (b := true) (by simp; omega)), iO 9 (p := str a) (i := Z i) (v := b8 x.toNat) (idx_run hx), vO 5 3 (cnv8Z x.toNat hxl), bO .sub 3 (run_subZ (x := x.toNat) (y := 94) (z := (x.toNat - 94 : Nat)) (by rw [wz (by omega) (by omega)]; omega)), bO .add 3 (run_addZ (x := i) (y := (x.toNat - 94 : Nat)) (z := (i + 1 + (x.toNat - 95) : Nat)) (by rw [wz (by omega) (by omega)]; omega))] (nonR w) I4 fun β5 a5 w5 I5 hb5 => ?_
        obtain ⟨u', Iu⟩ := I5.scr (bodyL Tryd.f7) (scrF 70 whK) (whW a b (i + 1 + (x.toNat - 95))) [] 0
        exact endL (hnext _ ho β5 u' a5 w5 Iu)
      · have ho : ownN x.toNat = 0 := by unfold ownN; rw [if_pos (by omega)]
        refine goQ [lnO a, bO .lss 3 (run_lssZ (x := i) (y := a.length) (b := true) (by simp; omega)), iO 9 (p := str a) (i := Z i) (v := b8 x.toNat) (idx_run hx), bO .geq 5 (run_geq8 (x := x.toNat) (y := 96) (b := true) (by simp; omega)), iO 9 (p := str a) (i := Z i) (v := b8 x.toNat) (idx_run hx), bO .leq 5 (run_leq8 (x := x.toNat) (y := 127) (b := false) (by simp; omega)), bO .add 3 (run_addZ (x := i) (y := 1) (z := (i + 1 + 0 : Nat)) (by rw [wz (by omega) (by omega)]; omega))] (nonR w) I4 fun β5 a5 w5 I5 hb5 => ?_
        obtain ⟨u', Iu⟩ := I5.scr (bodyL Tryd.f7) (scrF 70 whK) (whW a b (i + 1 + 0)) [] 0
        exact endL (hnext _ ho β5 u' a5 w5 Iu)
    · have ho : ownN x.toNat = 0 := by unfold ownN numN; rw [if_neg (by omega), if_neg (by omega), if_neg (by omega), if_neg (by omega)]
      refine goQ [lnO a, bO .lss 3 (run_lssZ (x := i) (y := a.length) (b := true) (by simp; omega)), iO 9 (p := str a) (i := Z i) (v := b8 x.toNat) (idx_run hx), bO .geq 5 (run_geq8 (x := x.toNat) (y := 96) (b := false) (by simp; omega)), bO .add 3 (run_addZ (x := i) (y := 1) (z := (i + 1 + 0 : Nat)) (by rw [wz (by omega) (by omega)]; omega))] (nonR w) I4 fun β5 a5 w5 I5 hb5 => ?_
      obtain ⟨u', Iu⟩ := I5.scr (bodyL Tryd.f7) (scrF 70 whK) (whW a b (i + 1 + 0)) [] 0
      exact endL (hnext _ ho β5 u' a5 w5 Iu)
  · rw [List.drop_eq_nil_of_le hil, endN_nil, Nat.add_zero] at hend
    by_cases hw : i = a.length
    · have hwh : wh a.length a = true := endN_wh _ _ (Nat.le_refl _) (by omega)
      refine goQ [lnO a, bO .lss 3 (run_lssZ (x := i) (y := a.length) (b := false) (by simp; omega))] (nonR w) I4 fun β5 a5 w5 I5 hb5 => ?_
      refine endE 0 ?_
      refine goQ [lnO a, bO .neq 3 (run_neqZ (x := i) (y := a.length) (b := false) (by simp; omega)), bO .add 9 (addS_run a b (by omega))] (nonR w) (I5.exit _) fun β6 a6 w6 I6 hb6 => ?_
      have B6 := I6.hJ
      refine ncall (f := 20) [Sum.inl (str (a ++ b))] Tryd.func20 I6 (callD (a ++ b) (by simp; omega) w6) fun v w7 hR I7 => ?_
      obtain ⟨gA, rfl, hA1, hA2, hA3⟩ := hR
      have B7 : RowKit.Below w.heap.size w w7 := B6.trans (hA3.mono B6.size)
      have lA := (Array.getElem?_eq_some_iff.1 hA2).1
      generalize hnA : (a ++ b).length = nA at *
      refine goQ [] (nonR w7) I7 fun β8 a8 w8 I8 hb8 => ?_
      have B8 : RowKit.Below w.heap.size w w8 := B7.trans (I8.hJ.mono B7.size)
      have hA8 := (I8.hJ.block gA lA).trans hA2
      have lA8 := (Array.getElem?_eq_some_iff.1 hA8).1
      refine bslQ (t := 36) (n := 0) (ss := []) I8 (bs_0 w8) ?_
      have I9 := I8.alloc (nonR w7) (.cells (blC []) 4) (.slice (some ⟨w8.heap.size, 0, none⟩) 0 0)
      have hb9 := below_alloc w8 (.cells (blC []) 4)
      have hB9 : (w8.alloc (.cells (blC []) 4)).heap[w8.heap.size]? = some (.cells (blC []) 4) := heap_alloc_last w8 _
      have hA9 := (hb9.block gA lA8).trans hA8
      have B9 := B8.trans (hb9.mono B8.size)
      have hgB : w.heap.size ≤ w8.heap.size := B8.size
      generalize w8.heap.size = gB at *
      generalize w8.alloc (.cells (blC []) 4) = w9 at *
      have lB9 := (Array.getElem?_eq_some_iff.1 hB9).1
      have lA9 := (Array.getElem?_eq_some_iff.1 hA9).1
      refine goQ [] (nonR w9) (I9.rebaseX (w' := w9)) fun β10 a10 w10 I10 hb10 => ?_
      have B10 := B9.trans (I10.hJ.mono B9.size)
      have hA10 := (I10.hJ.block gA lA9).trans hA9
      have hB10 := (I10.hJ.block gB lB9).trans hB9
      have lA10 := (Array.getElem?_eq_some_iff.1 hA10).1
      have lB10 := (Array.getElem?_eq_some_iff.1 hB10).1
      refine ncall (f := 20) [Sum.inl (str a)] Tryd.func20 I10 (callD a (by omega) w10) fun v w11 hR I11 => ?_
      obtain ⟨gC, rfl, hC1, hC2, hC3⟩ := hR
      have B11 := B10.trans (hC3.mono B10.size)
      have hA11 := (hC3.block gA lA10).trans hA10
      have hB11 := (hC3.block gB lB10).trans hB10
      have lA11 := (Array.getElem?_eq_some_iff.1 hA11).1
      have lB11 := (Array.getElem?_eq_some_iff.1 hB11).1
      have hlm := dsN_len a
      have hown : w11.ownsRow gB 4 1 (.slice (some ⟨gB, 0, none⟩) ([] : List Bool).length 0) ([] : List Bool).length (([] : List Bool).map Value.bool) := ⟨rfl, .inr ⟨gB, 0, blC [], rfl, Nat.le_refl _, hB11, Nat.le_refl _, by simp [maxLen], rfl, rfl⟩⟩
      obtain ⟨v', w12, hr12, ho12, hg12, ad', cp', rfl⟩ := app_bools (g := gC) (c2 := a.length) hown (by omega) hC2 (m := dsN a) (by simp only [blC]; rw [List.take_of_length_le (by simp)]) (by rw [hlm]; simp; omega)
      rw [hlm] at hr12
      rw [List.nil_append] at ho12 hr12
      refine appQ (ss := [Sum.inl (.slice (some ⟨gB, 0, none⟩) 0 0), Sum.inl (.slice (some ⟨gC, 0, none⟩) a.length a.length)]) I11 hr12 ?_
      have I12 := (I11.same (.slice (some ad') (dsN a).length cp')).rebaseX (w' := w12)
      have hAB : gA ≠ gB := by omega
      have hA12 : w12.heap[gA]? = some (.cells (blC (dsN (a ++ b))) 4) := (hg12.block gA lA11 (by simpa using hAB)).trans hA11
      have B12 : RowKit.Below w.heap.size w w12 := ⟨hg12.os.trans B11.os, hg12.tape.trans B11.tape, hg12.output.trans B11.output, Nat.le_trans B11.size hg12.size, fun k hk => (hg12.block k (Nat.lt_of_lt_of_le hk B11.size) (by simp; omega)).trans (B11.block k hk)⟩
      have lA12 := (Array.getElem?_eq_some_iff.1 hA12).1
      have hgBA : gA < gB := by omega
      have hadB : gB ≤ ad'.block := by
        rcases ho12.2 with ⟨h1, _⟩ | ⟨g', cp2, cur, h1, h2, _⟩
        · cases h1
        · cases h1; exact h2
      refine goQ [] (nonR w12) I12 fun β13 a13 w13 I13 hb13 => ?_
      have B13 := B12.trans (I13.hJ.mono B12.size)
      have ho13 : w13.ownsRow gB 4 1 (.slice (some ad') (dsN a).length cp') (dsN a).length ((dsN a).map Value.bool) := owns_grow (F := fun _ => True) ho12 ⟨I13.hJ.os, I13.hJ.tape, I13.hJ.output, I13.hJ.size, fun k hk _ => I13.hJ.block k hk⟩ fun _ _ => trivial
      have hA13 := (I13.hJ.block gA lA12).trans hA12
      have lA13 := (Array.getElem?_eq_some_iff.1 hA13).1
      refine ncall (f := 20) [Sum.inl (str b)] Tryd.func20 I13 (callD b (by omega) w13) fun v w14 hR I14 => ?_
      obtain ⟨gD, rfl, hD1, hD2, hD3⟩ := hR
      have B14 := B13.trans (hD3.mono B13.size)
      have hA14 := (hD3.block gA lA13).trans hA13
      have lA14 := (Array.getElem?_eq_some_iff.1 hA14).1
      have ho14 : w14.ownsRow gB 4 1 (.slice (some ad') (dsN a).length cp') (dsN a).length ((dsN a).map Value.bool) := owns_grow (F := fun _ => True) ho13 ⟨hD3.os, hD3.tape, hD3.output, hD3.size, fun k hk _ => hD3.block k hk⟩ fun _ _ => trivial
      have hlb := dsN_len b
      have hgB14 : gB ≤ w14.heap.size := by have q1 := hg12.size; have q2 := I13.hJ.size; have q3 := hD3.size; omega
      obtain ⟨v', w15, hr15, ho15, hg15, ad2, cp2, rfl⟩ := app_bools (g := gD) (c2 := b.length) ho14 hgB14 hD2 (m := dsN b) (by simp only [blC]; rw [List.take_of_length_le (by simp)]) (by rw [hlb, hlm]; omega)
      rw [hlb] at hr15
      refine appQ (ss := [Sum.inl (.slice (some ad') (dsN a).length cp'), Sum.inl (.slice (some ⟨gD, 0, none⟩) b.length b.length)]) I14 hr15 ?_
      have I15 := (I14.same (.slice (some ad2) (dsN a ++ dsN b).length cp2)).rebaseX (w' := w15)
      have hA15 : w15.heap[gA]? = some (.cells (blC (dsN (a ++ b))) 4) := (hg15.block gA lA14 (by simp; omega)).trans hA14
      have B15 : RowKit.Below w.heap.size w w15 := ⟨hg15.os.trans B14.os, hg15.tape.trans B14.tape, hg15.output.trans B14.output, Nat.le_trans B14.size hg15.size, fun k hk => (hg15.block k (Nat.lt_of_lt_of_le hk B14.size) (by simp; omega)).trans (B14.block k hk)⟩
      have hBA : BR w15 (.slice (some ⟨gA, 0, none⟩) nA nA) (dsN (a ++ b)) := BR.of (by rw [dsN_len]; exact hnA) hA15
      have hBD := owns_BR ho15
      have heq : dsN (a ++ b) = dsN a ++ dsN b := dsN_app a b hwh
      have hT15 : ∀ w', RowKit.Below w15.heap.size w15 w' → Tb w' := fun w' h => hT.below (B15.trans (h.mono B15.size))
      have h19 : ∀ w', RowKit.Below w15.heap.size w15 w' → Calls Tryd.prog 19 #[.slice (some ⟨gA, 0, none⟩) nA nA, .slice (some ad2) (dsN a ++ dsN b).length cp2] w' fun e w'' => e = .returned (.bool true) ∧ RowKit.Below w'.heap.size w' w'' := fun w' h => by
        have := bools_any (hBA.below h) (hBD.below h) (by rw [dsN_len]; simp; omega) (by simp [hlm, hlb]; omega)
        rw [decide_eq_true heq] at this
        exact this
      have hl1 : ∀ w', RowKit.Below w15.heap.size w15 w' → Calls Tryd.prog 22 #[str (a ++ b)] w' fun e w'' => e = .returned (str (lsN (a ++ b))) ∧ RowKit.Below w'.heap.size w' w'' := fun w' h => listing_any (hT15 w' h) (a ++ b) (by simp; omega)
      have hl2 : ∀ w', RowKit.Below w15.heap.size w15 w' → Calls Tryd.prog 22 #[str a] w' fun e w'' => e = .returned (str (lsN a)) ∧ RowKit.Below w'.heap.size w' w'' := fun w' h => listing_any (hT15 w' h) a (by omega)
      have hl3 : ∀ w', RowKit.Below w15.heap.size w15 w' → Calls Tryd.prog 22 #[str b] w' fun e w'' => e = .returned (str (lsN b)) ∧ RowKit.Below w'.heap.size w' w'' := fun w' h => listing_any (hT15 w' h) b (by omega)
      have hll1 := ls_take_len a (pc 0 a).length
      have hll2 := ls_take_len b (pc 0 b).length
      rw [List.take_length] at hll1 hll2
      change (lsN a).length ≤ _ at hll1
      change (lsN b).length ≤ _ at hll2
      rw [lsN_app a b hwh] at hl1
      generalize lsN a = la at *
      generalize lsN b = lb at *
      generalize (dsN a ++ dsN b).length = nD at *
      refine goT (T := RowKit.Below w15.heap.size w15) [cA Tryd.func19 h19, bO .add 9 (addS_run a b (by omega)), cA Tryd.func22 hl1, cA Tryd.func22 hl2, cA Tryd.func22 hl3, bO .add 9 (addS_run la lb (by omega)), bO .eql 9 (eqS_run (a := la ++ lb) (b := la ++ lb) (q := true) (by simp)), cA Tryd.func16 (fun w' h => h16 w' (hT15 w' h))] (nonR w15) (fun _ h => h) I15 fun β16 a16 w16 I16 hb16 => ?_
      exact outQ (v := .bool true) I16 ⟨rfl, B15.trans (I16.hJ.mono B15.size)⟩
    · refine goQ [lnO a, bO .lss 3 (run_lssZ (x := i) (y := a.length) (b := false) (by simp; omega))] (nonR w) I4 fun β5 a5 w5 I5 hb5 => ?_
      refine endE 0 ?_
      refine goT (T := Tb) [lnO a, bO .neq 3 (run_neqZ (x := i) (y := a.length) (b := true) (by simp; omega)), cA Tryd.func16 h16] (nonR w) hTT (I5.exit _) fun β6 a6 w6 I6 hb6 => ?_
      exact outQ (v := .bool true) I6 ⟨rfl, I6.hJ⟩
end Go.Proofs.YtoceebhnhccfdaaDoor
