/- The document's Dests and Listing. -/
import Derived.Test.YtoceebhnhccfdaaDoorMe
import Derived.Test.YtoceebhnhccfdaaDoorMb
import Derived.Test.YtoceebhnhccfdaaDoorKr
import Derived.Test.YtoceebhnhccfdaaDoorKp
import Derived.Test.YtoceebhnhccfdaaDoorKf
namespace Go.Proofs.YtoceebhnhccfdaaDoor
open Go.RowKit Go.Sort Go.Shelf
set_option linter.unusedVariables false
set_option maxRecDepth 100000
theorem dsR_drop {c : List UInt8} {i : Nat} {x : UInt8} (h : c[i]? = some x) : dsR c.length (c.drop i) = decide (x = 91) :: (List.replicate (min (ownN x.toNat) (c.length - (i + 1))) false ++ dsR c.length (c.drop (i + 1 + ownN x.toNat))) := by
  have hp := (List.getElem?_eq_some_iff.1 h).1
  have hd : c.drop i = x :: c.drop (i + 1) := by
    rw [List.drop_eq_getElem_cons hp]
    congr 1
    exact (List.getElem?_eq_some_iff.1 h).2
  obtain ⟨f, hf⟩ : ∃ f, c.length = f + 1 := ⟨c.length - 1, by omega⟩
  rw [hd, hf]
  simp only [dsR]
  rw [List.length_drop, List.drop_drop, hf]
  congr 2
  rcases Nat.lt_or_ge (f + 1) (i + 1 + ownN x.toNat) with h1 | h1
  · rw [List.drop_eq_nil_of_le (by omega), List.drop_eq_nil_of_le (by omega)]
    cases f <;> rfl
  · rw [Nat.min_eq_left (by omega)]
    exact dsR_fuel _ _ _ (by rw [List.length_drop]; omega) (by rw [List.length_drop]; omega)
theorem SI.storedV {J J' : World → Prop} {F F' : Nat → Prop} {ds : List Deferred} {β : Nat → Nat} {c : Cf} {a : Act} {w w' : World} (I : SI J F ds β c a w) (g : Grow (fun k => ¬ F k) w w') (hJ : J' w') (hF : ∀ k, k < w.heap.size → F' k → F k) : SI J' F' ds β (nextQ c (dstQ c) none) (a.put (dstQ c) undef) w' := I.move g hJ hF (dstQ c) none
/-- What the row of bools is, so far. -/
def dsI (c : List UInt8) (i : Nat) (acc : List Bool) : Prop := acc.length = c.length ∧ acc = acc.take i ++ List.replicate (c.length - i) false ∧ acc.take i ++ dsR c.length (c.drop i) = dsN c
theorem dsI_step {c : List UInt8} {i : Nat} {acc : List Bool} {x : UInt8} (h : dsI c i acc) (hx : c[i]? = some x) : dsI c (i + 1 + ownN x.toNat) (acc.set i (decide (x = 91))) := by
  obtain ⟨h1, h2, h3⟩ := h
  have hp := (List.getElem?_eq_some_iff.1 hx).1
  have ht : (acc.take i).length = i := by rw [List.length_take]; omega
  have hset : acc.set i (decide (x = 91)) = acc.take i ++ decide (x = 91) :: List.replicate (c.length - i - 1) false := by
    conv => lhs; rw [h2]
    rw [List.set_append_right i _ (by omega), ht, Nat.sub_self, show c.length - i = (c.length - i - 1) + 1 by omega, List.replicate_succ, List.set_cons_zero]
    congr 2
  have htk : (acc.set i (decide (x = 91))).take (i + 1 + ownN x.toNat) = acc.take i ++ decide (x = 91) :: List.replicate (min (ownN x.toNat) (c.length - (i + 1))) false := by
    rw [hset, List.take_append, ht, List.take_of_length_le (by omega), show i + 1 + ownN x.toNat - i = ownN x.toNat + 1 by omega, List.take_succ_cons, List.take_replicate]
    congr 3
  refine ⟨by simp [h1], ?_, ?_⟩
  · rw [htk, hset, List.append_assoc, List.cons_append, List.replicate_append_replicate]
    congr 3
    omega
  · rw [htk, List.append_assoc, List.cons_append, ← dsR_drop hx]
    exact h3
abbrev rdK : List Nat := [0, 2, 3, 4]
abbrev rdWv (c : List UInt8) (g i : Nat) : Vs := frm 28 [(0, Sum.inl (str c)), (2, Sum.inl (.slice none 0 0)), (3, Sum.inl (.slice (some ⟨g, 0, none⟩) c.length c.length)), (4, Sum.inl (Z i))]
set_option maxHeartbeats 4000000 in
theorem rdests_any (c : List UInt8) (hc : c.length < 100000000) (w : World) : Calls Tryd.prog 21 #[str c] w fun e w' => ∃ v, e = .returned v ∧ ∃ g, v = .slice (some ⟨g, 0, none⟩) c.length c.length ∧ w.heap.size ≤ g ∧ w'.heap[g]? = some (.cells (blC (dsN c)) 4) ∧ RowKit.Below w.heap.size w w' := by
  refine inQ (J := RowKit.Below w.heap.size w) (F := (· < w.heap.size)) Tryd.func21 (RowKit.Below.refl _ _) fun a I => ?_
  refine goQ [lnO c] (nonR w) I fun β a w1 I1 hb => ?_
  refine mksQ (t := 36) (x := Sum.inl (Z c.length)) (y := Sum.inl (Z c.length)) I1 (make_bools c.length hc w1) ?_
  have I2 := I1.lay (nonR w) (.cells (blC (List.replicate c.length false)) 4) (.slice (some ⟨w1.heap.size, 0, none⟩) c.length c.length)
  have hgs := I1.hJ.size
  generalize w1.heap.size = g at *
  generalize w1.alloc (.cells (blC (List.replicate c.length false)) 4) = w2 at *
  refine goQ [] (dJ.rs w g (List.replicate c.length false)) I2 fun β a w3 I3 hb => ?_
  let St : Nat → Act → World → Prop := fun k a w' => ∃ (i : Nat) (acc : List Bool) (β : Nat → Nat) (u : Nat → Value), k = c.length - i ∧ i ≤ c.length + 33 ∧ dsI c i acc ∧ SI (dJ w g acc) (dF w g) [] β (cfC (bodyL Tryd.f21) (fillF (scrF 28 rdK) u 0 (rdWv c g i)) [] 0) a w'
  refine lpM (bodyL Tryd.f21) St c.length ?_ ?_
  · obtain ⟨u, Iu⟩ := I3.scr (bodyL Tryd.f21) (scrF 28 rdK) (rdWv c g 0) [] 0
    exact ⟨0, List.replicate c.length false, β, u, by omega, Nat.zero_le _, ⟨by simp, by simp, by simp [dsN_eq]⟩, Iu⟩
  rintro k a4 w4 ⟨i, acc, β4, u, rfl, hi, hI, I4⟩
  refine wp_cfC (tm := fillF (scrF 28 rdK) u 0 (rdWv c g i)) (rows := []) (nx := 0) ?_
  rcases Nat.lt_or_ge i c.length with hil | hil
  · obtain ⟨x, hx⟩ : ∃ x, c[i]? = some x := ⟨_, List.getElem?_eq_getElem hil⟩
    have hst := dsI_step hI hx
    have hown := rown_any x.toNat (u8_lt x)
    have hol := ownN_lt x.toNat
    generalize ownN x.toNat = ow at *
    refine goQ [lnO c, bO .lss 3 (run_lssZ (x := i) (y := c.length) (b := true) (by simp; omega)), iO 9 (p := str c) (i := Z i) (v := b8 x.toNat) (idx_run hx), bO .eql 5 (eqB_run (x := x) (y := 91) (q := decide (x = 91)) rfl), iA 36 Tryd.underlying36 (sz := 1) (by kernel_rfl) (g := g) (off := 0) (n := c.length) (cap := c.length) (i := i) hil] (dJ.rs w g acc) I4 fun β5 a5 w5 I5 hb5 => ?_
    have hrun := store_bool (p := i) (decide (x = 91)) I5.hJ.2 (by rw [hI.1]; exact hil)
    have hsg := set_grow (cs := blC (acc.set i (decide (x = 91)))) I5.hJ.2
    refine stoQ (ad := ⟨g, 0 + i * 1, none⟩) (v := .bool (decide (x = 91))) I5 (by rw [Nat.zero_add, Nat.mul_one]; exact hrun) ?_
    have hB : RowKit.Below w.heap.size w (w5.setRow g (blC (acc.set i (decide (x = 91))))) := ⟨hsg.1.os.trans I5.hJ.1.os, hsg.1.tape.trans I5.hJ.1.tape, hsg.1.output.trans I5.hJ.1.output, Nat.le_trans I5.hJ.1.size hsg.1.size, fun k hk => (hsg.1.block k (Nat.lt_of_lt_of_le hk I5.hJ.1.size) (by omega)).trans (I5.hJ.1.block k hk)⟩
    have I6 := I5.storedV (J' := dJ w g (acc.set i (decide (x = 91)))) (F' := dF w g) (w' := w5.setRow g (blC (acc.set i (decide (x = 91))))) ⟨hsg.1.os, hsg.1.tape, hsg.1.output, hsg.1.size, fun k hk hn => hsg.1.block k hk fun e => hn (.inr e)⟩ ⟨hB, hsg.2⟩ (fun k _ h => h)
    generalize acc.set i (decide (x = 91)) = acc' at *
    generalize w5.setRow g (blC acc') = w6 at *
    refine goQ [iO 9 (p := str c) (i := Z i) (v := b8 x.toNat) (idx_run hx), kC Tryd.func31 hown, bO .add 3 (run_addZ (x := i) (y := ow) (z := (i + ow : Nat)) (by rw [wz (by omega) (by omega)]; omega)), bO .add 3 (run_addZ (x := (i + ow : Nat)) (y := 1) (z := (i + 1 + ow : Nat)) (by rw [wz (by omega) (by omega)]; omega))] (dJ.rs w g acc') I6 fun β7 a7 w7 I7 hb7 => ?_
    obtain ⟨u', Iu⟩ := I7.scr (bodyL Tryd.f21) (scrF 28 rdK) (rdWv c g (i + 1 + ow)) [] 0
    exact endL ⟨c.length - (i + 1 + ow), by omega, i + 1 + ow, acc', β7, u', rfl, by omega, hst, Iu⟩
  · have hacc : acc = dsN c := by
      obtain ⟨h1, h2, h3⟩ := hI
      rw [List.drop_eq_nil_of_le hil, List.take_of_length_le (by omega)] at h3
      cases hcl : c.length with
      | zero => rw [hcl] at h3; simpa [dsR] using h3
      | succ f => rw [hcl] at h3; simpa [dsR] using h3
    refine goQ [lnO c, bO .lss 3 (run_lssZ (x := i) (y := c.length) (b := false) (by simp; omega))] (dJ.rs w g acc) I4 fun β5 a5 w5 I5 hb5 => ?_
    refine endE 0 ?_
    refine goQ [] (dJ.rs w g acc) (I5.exit _) fun β6 a6 w6 I6 hb6 => ?_
    have hrow := I6.hJ.2
    rw [hacc] at hrow
    exact outQ (v := .slice (some ⟨g, 0, none⟩) c.length c.length) I6 ⟨_, rfl, g, rfl, hgs, hrow, I6.hJ.1⟩
theorem nm_own : ∀ n : Fin 256, nmN n.val = [] → ownN n.val = 0 := by decide +kernel
/-- The operations from a place on. -/
theorem pc_at {c : List UInt8} {i : Nat} {x : UInt8} (hx : c[i]? = some x) : pc i (c.drop i) = (i, x :: (c.drop (i + 1)).take (ownN x.toNat)) :: pc (min (i + 1 + ownN x.toNat) c.length) (c.drop (i + 1 + ownN x.toNat)) := by
  have hp := (List.getElem?_eq_some_iff.1 hx).1
  obtain ⟨b, hb, e, he, h1, h2, h3⟩ := pc_step hp
  rw [hx] at hb
  cases hb
  rw [h3]
  have hd : c.drop i = x :: c.drop (i + 1) := by
    rw [List.drop_eq_getElem_cons hp]
    congr 1
    exact (List.getElem?_eq_some_iff.1 hx).2
  rw [List.drop_take, hd, ← he]
  obtain ⟨k, hk⟩ : ∃ k, e - i = k + 1 := ⟨e - i - 1, by omega⟩
  rw [hk, List.take_succ_cons]
  rcases Nat.lt_or_ge c.length (i + 1 + ownN x.toNat) with h4 | h4
  · have he2 : e = c.length := by omega
    have t1 : (c.drop (i + 1)).take k = c.drop (i + 1) := List.take_of_length_le (by rw [List.length_drop]; omega)
    have t2 : (c.drop (i + 1)).take (ownN x.toNat) = c.drop (i + 1) := List.take_of_length_le (by rw [List.length_drop]; omega)
    have d1 : c.drop e = [] := List.drop_eq_nil_of_le (by omega)
    have d2 : c.drop (i + 1 + ownN x.toNat) = [] := List.drop_eq_nil_of_le (by omega)
    rw [t1, t2, d1, d2]
  · have he2 : e = i + 1 + ownN x.toNat := by omega
    rw [show k = ownN x.toNat by omega, he2]
theorem pc_len0 {c : List UInt8} (p q : Nat) : (pc p c).flatMap lnP = (pc q c).flatMap lnP := pc_shift _ _ _ _
abbrev rlK : List Nat := [0, 2, 3, 4]
abbrev rlW (c o : List UInt8) (i : Nat) : Vs := frm 91 [(0, Sum.inl (str c)), (2, Sum.inl (str [])), (3, Sum.inl (str o)), (4, Sum.inl (Z i))]
abbrev rmK : List Nat := [0, 2, 3, 7]
abbrev rmW (c o : List UInt8) (k : Nat) : Vs := frm 91 [(0, Sum.inl (str c)), (2, Sum.inl (str [])), (3, Sum.inl (str o)), (7, Sum.inl (Z k))]
set_option maxHeartbeats 4000000 in
theorem rlisting_any (c : List UInt8) (hc : c.length < 1000000) (w : World) : Calls Tryd.prog 23 #[str c] w fun e w' => e = .returned (str (lsN c)) ∧ RowKit.Below w.heap.size w w' := by
  have hLL := ls_take_len c (pc 0 c).length
  rw [List.take_length] at hLL
  change (lsN c).length ≤ _ at hLL
  refine inQ (J := RowKit.Below w.heap.size w) (F := (· < w.heap.size)) Tryd.func23 (RowKit.Below.refl _ _) fun a I => ?_
  refine goQ [] (nonR w) I fun β a w3 I3 hb => ?_
  let St : Nat → Act → World → Prop := fun k a w' => ∃ (i : Nat) (o : List UInt8) (β : Nat → Nat) (u : Nat → Value), k = c.length - i ∧ i ≤ c.length + 33 ∧ o ++ (pc i (c.drop i)).flatMap lnP = lsN c ∧ SI (RowKit.Below w.heap.size w) (· < w.heap.size) [] β (cfC (bodyL Tryd.f23) (fillF (scrF 91 rlK) u 0 (rlW c o i)) [] 0) a w'
  refine lpM (bodyL Tryd.f23) St c.length ?_ ?_
  · obtain ⟨u, Iu⟩ := I3.scr (bodyL Tryd.f23) (scrF 91 rlK) (rlW c [] 0) [] 0
    exact ⟨0, [], β, u, by omega, Nat.zero_le _, rfl, Iu⟩
  rintro k a4 w4 ⟨i, o, β4, u, rfl, hi, hI, I4⟩
  refine wp_cfC (tm := fillF (scrF 91 rlK) u 0 (rlW c o i)) (rows := []) (nx := 0) ?_
  rcases Nat.lt_or_ge i c.length with hil | hil
  · obtain ⟨x, hx⟩ : ∃ x, c[i]? = some x := ⟨_, List.getElem?_eq_getElem hil⟩
    have hpc := pc_at hx
    rw [hpc, List.flatMap_cons] at hI
    have hln : lnP (i, x :: (c.drop (i + 1)).take (ownN x.toNat)) = lnL x ((c.drop (i + 1)).take (ownN x.toNat)) := rfl
    rw [hln] at hI
    have hol : o.length ≤ (lsN c).length := by rw [← hI, List.length_append]; omega
    have hown := rown_any x.toNat (u8_lt x)
    have hnm := rname_any x.toNat (u8_lt x)
    have hno := nm_own ⟨x.toNat, x.toNat_lt⟩
    have hnl := nmN_len x.toNat (u8_lt x)
    have how := ownN_lt x.toNat
    simp only [] at hno
    have hcut : ∀ w, (Instr.sliceAt 9 (str c) (some (Z i)) (some (Z (i + 1 : Nat))) none).run Tryd.prog w = .ok (str [x]) w := fun w => by rw [← cut_one hx]; exact both_run (by omega) hil w
    have hth := rhex_any [x] (by simp)
    have h2 : hexL [x] = hex2 x := by simp [hexL]
    rw [h2] at hth
    have hl2 : (hex2 x).length = 2 := rfl
    have hb1 : bareL [x] = [48, 120] ++ (hex2 x ++ [10]) := by simp [bareL, bare1]
    have hnext : ∀ (o' : List UInt8) (ow : Nat), ownN x.toNat = ow → o' = o ++ lnL x ((c.drop (i + 1)).take (ownN x.toNat)) → ∀ (β5 : Nat → Nat) (u5 : Nat → Value) (a5 : Act) (w5 : World), SI (RowKit.Below w.heap.size w) (· < w.heap.size) [] β5 (cfC (bodyL Tryd.f23) (fillF (scrF 91 rlK) u5 0 (rlW c o' (i + 1 + ow))) [] 0) a5 w5 → ∃ j, j < c.length - i ∧ St j a5 w5 := fun o' ow ho he β5 u5 a5 w5 I5 => by
      subst ho he
      refine ⟨c.length - (i + 1 + ownN x.toNat), by omega, i + 1 + ownN x.toNat, _, β5, u5, rfl, by omega, ?_, I5⟩
      rw [pc_len0 (i + 1 + ownN x.toNat) (min (i + 1 + ownN x.toNat) c.length), List.append_assoc]
      exact hI
    by_cases hn0 : nmN x.toNat = []
    · have hz := hno hn0
      have hlL : lnL x ((c.drop (i + 1)).take (ownN x.toNat)) = bareL [x] := by unfold lnL; rw [if_pos (.inl hn0), hz]; simp
      rw [hlL, hb1] at hnext
      rw [hz] at hown
      generalize nmN x.toNat = nm at *
      generalize hex2 x = hx2 at *
      refine goQ [lnO c, bO .lss 3 (run_lssZ (x := i) (y := c.length) (b := true) (by simp; omega)), iO 9 (p := str c) (i := Z i) (v := b8 x.toNat) (idx_run hx), kC Tryd.func31 hown, iO 9 (p := str c) (i := Z i) (v := b8 x.toNat) (idx_run hx), kC Tryd.func13 hnm, bO .eql 9 (eqS_run (a := nm) (b := []) (q := true) (by simp [hn0])), bO .add 9 (addS_run o [48, 120] (by simp; omega)), bO .add 3 (run_addZ (x := i) (y := 1) (z := (i + 1 : Nat)) (by rw [wz (by omega) (by omega)]; omega)), sLH 9 hcut, kC Tryd.func34 hth, bO .add 9 (addS_run (o ++ [48, 120]) hx2 (by simp; omega)), bO .add 9 (addS_run (o ++ [48, 120] ++ hx2) [10] (by simp; omega)), bO .neq 9 (neS_run (a := nm) (b := []) (q := false) (by simp [hn0])), bO .add 3 (run_addZ (x := i) (y := (0 : Nat)) (z := (i + 0 : Nat)) (by rw [wz (by omega) (by omega)]; omega)), bO .add 3 (run_addZ (x := (i + 0 : Nat)) (y := 1) (z := (i + 1 + 0 : Nat)) (by rw [wz (by omega) (by omega)]; omega))] (nonR w) I4 fun β5 a5 w5 I5 hb5 => ?_
      obtain ⟨u', Iu⟩ := I5.scr (bodyL Tryd.f23) (scrF 91 rlK) (rlW c (o ++ [48, 120] ++ hx2 ++ [10]) (i + 1 + 0)) [] 0
      exact endL (hnext _ 0 hz (by simp) β5 u' a5 w5 Iu)
    by_cases hbig : c.length - 1 - i < ownN x.toNat
    · have hr : (c.drop (i + 1)).take (ownN x.toNat) = c.drop (i + 1) := List.take_of_length_le (by rw [List.length_drop]; omega)
      have hlL : lnL x ((c.drop (i + 1)).take (ownN x.toNat)) = bareL (x :: c.drop (i + 1)) := by unfold lnL; rw [hr, if_pos (.inr (by rw [List.length_drop]; omega))]
      have hd2 : c.drop (i + 1 + ownN x.toNat) = [] := List.drop_eq_nil_of_le (by omega)
      rw [hlL, hd2, pc_nil, List.flatMap_nil, List.append_nil] at hI
      have hI2 : (o ++ [48, 120] ++ hex2 x ++ [10]) ++ bareL (c.drop (i + 1)) = lsN c := by rw [← hI]; simp [bareL, bare1]
      clear hnext hlL hI
      generalize nmN x.toNat = nm at *
      generalize ownN x.toNat = ow at *
      generalize hex2 x = hx2 at *
      refine goQ [lnO c, bO .lss 3 (run_lssZ (x := i) (y := c.length) (b := true) (by simp; omega)), iO 9 (p := str c) (i := Z i) (v := b8 x.toNat) (idx_run hx), kC Tryd.func31 hown, iO 9 (p := str c) (i := Z i) (v := b8 x.toNat) (idx_run hx), kC Tryd.func13 hnm, bO .eql 9 (eqS_run (a := nm) (b := []) (q := false) (by simp [hn0])), lnO c, bO .sub 3 (run_subZ (x := c.length) (y := 1) (z := (c.length - 1 : Nat)) (by rw [wz (by omega) (by omega)]; omega)), bO .sub 3 (run_subZ (x := (c.length - 1 : Nat)) (y := i) (z := (c.length - 1 - i : Nat)) (by rw [wz (by omega) (by omega)]; omega)), bO .gtr 3 (run_gtrZ (x := ow) (y := (c.length - 1 - i : Nat)) (b := true) (by simp; omega)), bO .add 9 (addS_run o [48, 120] (by simp; omega)), bO .add 3 (run_addZ (x := i) (y := 1) (z := (i + 1 : Nat)) (by rw [wz (by omega) (by omega)]; omega)), sLH 9 hcut, kC Tryd.func34 hth, bO .add 9 (addS_run (o ++ [48, 120]) hx2 (by simp; omega)), bO .add 9 (addS_run (o ++ [48, 120] ++ hx2) [10] (by simp; omega)), bO .neq 9 (neS_run (a := nm) (b := []) (q := true) (by simp [hn0])), bO .add 3 (run_addZ (x := i) (y := 1) (z := (i + 1 : Nat)) (by rw [wz (by omega) (by omega)]; omega))] (nonR w) I4 fun β5 a5 w5 I5 hb5 => ?_
      let S2 : Nat → Act → World → Prop := fun k a w' => ∃ (q : Nat) (o2 : List UInt8) (β : Nat → Nat) (u : Nat → Value), k = c.length - q ∧ q ≤ c.length ∧ o2 ++ bareL (c.drop q) = lsN c ∧ SI (RowKit.Below w.heap.size w) (· < w.heap.size) [] β (cfC (loop2 Tryd.f23) (fillF (scrF 91 rmK) u 0 (rmW c o2 q)) [] 0) a w'
      refine lpM (loop2 Tryd.f23) S2 (c.length - (i + 1)) ?_ ?_
      · obtain ⟨u', Iu⟩ := I5.scr (loop2 Tryd.f23) (scrF 91 rmK) (rmW c (o ++ [48, 120] ++ hx2 ++ [10]) (i + 1)) [] 0
        exact ⟨i + 1, _, β5, u', rfl, hil, hI2, Iu⟩
      clear hI2
      rintro k a6 w6 ⟨q, o2, β6, u6, rfl, hq, hJ2, I6⟩
      refine wp_cfC (tm := fillF (scrF 91 rmK) u6 0 (rmW c o2 q)) (rows := []) (nx := 0) ?_
      have ho2 : o2.length ≤ (lsN c).length := by rw [← hJ2, List.length_append]; omega
      rcases Nat.lt_or_ge q c.length with hql | hql
      · obtain ⟨y, hy⟩ : ∃ y, c[q]? = some y := ⟨_, List.getElem?_eq_getElem hql⟩
        have hcut2 : ∀ w, (Instr.sliceAt 9 (str c) (some (Z q)) (some (Z (q + 1 : Nat))) none).run Tryd.prog w = .ok (str [y]) w := fun w => by rw [← cut_one hy]; exact both_run (by omega) hql w
        have hth2 := rhex_any [y] (by simp)
        have h22 : hexL [y] = hex2 y := by simp [hexL]
        rw [h22] at hth2
        have hl22 : (hex2 y).length = 2 := rfl
        have hdq : c.drop q = y :: c.drop (q + 1) := by
          rw [List.drop_eq_getElem_cons hql]
          congr 1
          exact (List.getElem?_eq_some_iff.1 hy).2
        have hJ3 : (o2 ++ [48, 120] ++ hex2 y ++ [10]) ++ bareL (c.drop (q + 1)) = lsN c := by rw [← hJ2, hdq]; simp [bareL, bare1]
        generalize hex2 y = hy2 at *
        refine goQ [lnO c, bO .lss 3 (run_lssZ (x := q) (y := c.length) (b := true) (by simp; omega)), bO .add 9 (addS_run o2 [48, 120] (by simp; omega)), bO .add 3 (run_addZ (x := q) (y := 1) (z := (q + 1 : Nat)) (by rw [wz (by omega) (by omega)]; omega)), sLH 9 hcut2, kC Tryd.func34 hth2, bO .add 9 (addS_run (o2 ++ [48, 120]) hy2 (by simp; omega)), bO .add 9 (addS_run (o2 ++ [48, 120] ++ hy2) [10] (by simp; omega)), bO .add 3 (run_addZ (x := q) (y := 1) (z := (q + 1 : Nat)) (by rw [wz (by omega) (by omega)]; omega))] (nonR w) I6 fun β7 a7 w7 I7 hb7 => ?_
        obtain ⟨u', Iu⟩ := I7.scr (loop2 Tryd.f23) (scrF 91 rmK) (rmW c (o2 ++ [48, 120] ++ hy2 ++ [10]) (q + 1)) [] 0
        exact endL ⟨c.length - (q + 1), by omega, q + 1, _, β7, u', rfl, hql, hJ3, Iu⟩
      · refine goQ [lnO c, bO .lss 3 (run_lssZ (x := q) (y := c.length) (b := false) (by simp; omega))] (nonR w) I6 fun β7 a7 w7 I7 hb7 => ?_
        refine endE 3 ?_
        refine goQ [] (nonR w) (I7.exit _) fun β8 a8 w8 I8 hb8 => ?_
        rw [List.drop_eq_nil_of_le hql] at hJ2
        have hoe : o2 = lsN c := by simpa [bareL] using hJ2
        rw [← hoe]
        exact endR (retV (v := str o2) I8 ⟨rfl, I8.hJ⟩)
    by_cases hpos : 0 < ownN x.toNat
    · have hrl : ((c.drop (i + 1)).take (ownN x.toNat)).length = ownN x.toNat := by rw [List.length_take, List.length_drop]; omega
      have hlL : lnL x ((c.drop (i + 1)).take (ownN x.toNat)) = nmN x.toNat ++ [32] ++ hexL ((c.drop (i + 1)).take (ownN x.toNat)) ++ [10] := by
        unfold lnL
        rw [if_neg (fun h => h.elim hn0 (fun h => by omega)), if_neg (fun e => by rw [e] at hrl; simp at hrl; omega)]
      rw [hlL] at hnext
      have hth3 := rhex_any ((c.drop (i + 1)).take (ownN x.toNat)) (by omega)
      have hhl := hexL_len ((c.drop (i + 1)).take (ownN x.toNat))
      have hcut3 : ∀ w, (Instr.sliceAt 9 (str c) (some (Z (i + 1 : Nat))) (some (Z (i + 1 + ownN x.toNat : Nat))) none).run Tryd.prog w = .ok (str ((c.drop (i + 1)).take (ownN x.toNat))) w := fun w => by
        have h := both_run (l := c) (i := i + 1) (j := i + 1 + ownN x.toNat) (by omega) (by omega) w
        rw [List.drop_take, show i + 1 + ownN x.toNat - (i + 1) = ownN x.toNat by omega] at h
        exact h
      rw [hrl] at hhl
      generalize hexL ((c.drop (i + 1)).take (ownN x.toNat)) = hr2 at *
      generalize (c.drop (i + 1)).take (ownN x.toNat) = r2 at *
      generalize nmN x.toNat = nm at *
      have hown' := hown
      have hnext' := fun o' he => hnext o' (ownN x.toNat) rfl he
      clear hnext hown
      generalize ownN x.toNat = ow at *
      refine goQ [lnO c, bO .lss 3 (run_lssZ (x := i) (y := c.length) (b := true) (by simp; omega)), iO 9 (p := str c) (i := Z i) (v := b8 x.toNat) (idx_run hx), kC Tryd.func31 hown', iO 9 (p := str c) (i := Z i) (v := b8 x.toNat) (idx_run hx), kC Tryd.func13 hnm, bO .eql 9 (eqS_run (a := nm) (b := []) (q := false) (by simp [hn0])), lnO c, bO .sub 3 (run_subZ (x := c.length) (y := 1) (z := (c.length - 1 : Nat)) (by rw [wz (by omega) (by omega)]; omega)), bO .sub 3 (run_subZ (x := (c.length - 1 : Nat)) (y := i) (z := (c.length - 1 - i : Nat)) (by rw [wz (by omega) (by omega)]; omega)), bO .gtr 3 (run_gtrZ (x := ow) (y := (c.length - 1 - i : Nat)) (b := false) (by simp; omega)), bO .gtr 3 (run_gtrZ (x := ow) (y := 0) (b := true) (by simp; omega)), bO .add 9 (addS_run o nm (by omega)), bO .add 9 (addS_run (o ++ nm) [32] (by simp; omega)), bO .add 3 (run_addZ (x := i) (y := 1) (z := (i + 1 : Nat)) (by rw [wz (by omega) (by omega)]; omega)), bO .add 3 (run_addZ (x := i) (y := 1) (z := (i + 1 : Nat)) (by rw [wz (by omega) (by omega)]; omega)), bO .add 3 (run_addZ (x := (i + 1 : Nat)) (y := ow) (z := (i + 1 + ow : Nat)) (by rw [wz (by omega) (by omega)]; omega)), sLH 9 hcut3, kC Tryd.func34 hth3, bO .add 9 (addS_run (o ++ nm ++ [32]) hr2 (by simp; omega)), bO .add 9 (addS_run (o ++ nm ++ [32] ++ hr2) [10] (by simp; omega)), bO .add 3 (run_addZ (x := i) (y := ow) (z := (i + ow : Nat)) (by rw [wz (by omega) (by omega)]; omega)), bO .add 3 (run_addZ (x := (i + ow : Nat)) (y := 1) (z := (i + 1 + ow : Nat)) (by rw [wz (by omega) (by omega)]; omega))] (nonR w) I4 fun β5 a5 w5 I5 hb5 => ?_
      obtain ⟨u', Iu⟩ := I5.scr (bodyL Tryd.f23) (scrF 91 rlK) (rlW c (o ++ nm ++ [32] ++ hr2 ++ [10]) (i + 1 + ow)) [] 0
      exact endL (hnext' _ (by simp) β5 u' a5 w5 Iu)
    · have hz : ownN x.toNat = 0 := by omega
      have hlL : lnL x ((c.drop (i + 1)).take (ownN x.toNat)) = nmN x.toNat ++ [10] := by
        unfold lnL
        rw [hz, List.take_zero, if_neg (fun h => h.elim hn0 (fun h => by simp at h)), if_pos rfl]
      rw [hlL] at hnext
      rw [hz] at hown
      generalize nmN x.toNat = nm at *
      refine goQ [lnO c, bO .lss 3 (run_lssZ (x := i) (y := c.length) (b := true) (by simp; omega)), iO 9 (p := str c) (i := Z i) (v := b8 x.toNat) (idx_run hx), kC Tryd.func31 hown, iO 9 (p := str c) (i := Z i) (v := b8 x.toNat) (idx_run hx), kC Tryd.func13 hnm, bO .eql 9 (eqS_run (a := nm) (b := []) (q := false) (by simp [hn0])), lnO c, bO .sub 3 (run_subZ (x := c.length) (y := 1) (z := (c.length - 1 : Nat)) (by rw [wz (by omega) (by omega)]; omega)), bO .sub 3 (run_subZ (x := (c.length - 1 : Nat)) (y := i) (z := (c.length - 1 - i : Nat)) (by rw [wz (by omega) (by omega)]; omega)), bO .gtr 3 (run_gtrZ (x := (0 : Nat)) (y := (c.length - 1 - i : Nat)) (b := false) (by simp)), bO .gtr 3 (run_gtrZ (x := (0 : Nat)) (y := 0) (b := false) (by simp)), bO .add 9 (addS_run o nm (by omega)), bO .add 9 (addS_run (o ++ nm) [10] (by simp; omega)), bO .add 3 (run_addZ (x := i) (y := (0 : Nat)) (z := (i + 0 : Nat)) (by rw [wz (by omega) (by omega)]; omega)), bO .add 3 (run_addZ (x := (i + 0 : Nat)) (y := 1) (z := (i + 1 + 0 : Nat)) (by rw [wz (by omega) (by omega)]; omega))] (nonR w) I4 fun β5 a5 w5 I5 hb5 => ?_
      obtain ⟨u', Iu⟩ := I5.scr (bodyL Tryd.f23) (scrF 91 rlK) (rlW c (o ++ nm ++ [10]) (i + 1 + 0)) [] 0
      exact endL (hnext _ 0 hz (by simp) β5 u' a5 w5 Iu)
  · refine goQ [lnO c, bO .lss 3 (run_lssZ (x := i) (y := c.length) (b := false) (by simp; omega))] (nonR w) I4 fun β5 a5 w5 I5 hb5 => ?_
    refine endE 0 ?_
    refine goQ [] (nonR w) (I5.exit _) fun β6 a6 w6 I6 hb6 => ?_
    rw [List.drop_eq_nil_of_le hil, pc_nil] at hI
    have hoe : o = lsN c := by simpa using hI
    rw [← hoe]
    exact outQ (v := str o) I6 ⟨rfl, I6.hJ⟩
end Go.Proofs.YtoceebhnhccfdaaDoor
