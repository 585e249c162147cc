/- A code's operations as text: the program's bare, lines. -/
import Derived.Test.YtoceebhnhccfdaaDoorKk
namespace Go.Proofs.YtoceebhnhccfdaaDoor
open Go.RowKit Go.Sort Go.Shelf
set_option linter.unusedVariables false
set_option maxRecDepth 100000
def bare1 (b : UInt8) : List UInt8 := [48, 120] ++ (hex2 b ++ [10])
def bareL (s : List UInt8) : List UInt8 := s.flatMap bare1
theorem bare1_len (b : UInt8) : (bare1 b).length = 5 := rfl
theorem bareL_len : ∀ s, (bareL s).length = 5 * s.length
  | [] => rfl
  | b :: s => by unfold bareL; rw [List.flatMap_cons, List.length_append]; have := bareL_len s; unfold bareL at this; rw [this, bare1_len]; simp; omega
theorem bareL_take {s : List UInt8} {i : Nat} {x : UInt8} (h : s[i]? = some x) : bareL (s.take (i + 1)) = bareL (s.take i) ++ bare1 x := by
  unfold bareL
  rw [List.take_add_one, h, List.flatMap_append]
  simp
theorem cut_one {s : List UInt8} {i : Nat} {x : UInt8} (h : s[i]? = some x) : (s.take (i + 1)).drop i = [x] := by
  have hi := (List.getElem?_eq_some_iff.1 h).1
  rw [List.take_add_one, h, List.drop_append_of_le_length (by rw [List.length_take]; omega), List.drop_eq_nil_of_le (by rw [List.length_take]; omega)]
  rfl
abbrev baK : List Nat := [0, 2, 3, 6, 7]
abbrev baW (s l : List UInt8) (i : Nat) : Vs := frm 22 [(0, Sum.inl (str s)), (2, Sum.inl (str [])), (3, Sum.inl (str l)), (6, Sum.inl (Z s.length)), (7, Sum.inl (Z i))]
set_option maxHeartbeats 4000000 in
theorem bare_any (s : List UInt8) (hs : s.length < 10000000) (w : World) : Calls Tryd.prog 46 #[str s] w fun e w' => e = .returned (str (bareL s)) ∧ RowKit.Below w.heap.size w w' := by
  refine inQ (J := RowKit.Below w.heap.size w) (F := (· < w.heap.size)) Tryd.func46 (RowKit.Below.refl _ _) fun a I => ?_
  refine goQ [lnO s] (nonR w) I fun β a w3 I3 hb => ?_
  let St : Nat → Act → World → Prop := fun k a w' => ∃ (i : Nat) (β : Nat → Nat) (u : Nat → Value), k = s.length - i ∧ i ≤ s.length ∧ SI (RowKit.Below w.heap.size w) (· < w.heap.size) [] β (cfC (bodyL Tryd.f46) (fillF (scrF 22 baK) u 0 (baW s (bareL (s.take i)) i)) [] 0) a w'
  refine lpM (bodyL Tryd.f46) St s.length ?_ ?_
  · obtain ⟨u, Iu⟩ := I3.scr (bodyL Tryd.f46) (scrF 22 baK) (baW s [] 0) [] 0
    exact ⟨0, β, u, by omega, Nat.zero_le _, Iu⟩
  rintro k a3 w3 ⟨i, β3, u, rfl, hi, I4⟩
  refine wp_cfC (tm := fillF (scrF 22 baK) u 0 (baW s (bareL (s.take i)) i)) (rows := []) (nx := 0) ?_
  rcases Nat.lt_or_ge i s.length with hil | hil
  · obtain ⟨x, hx⟩ : ∃ x, s[i]? = some x := ⟨_, List.getElem?_eq_getElem hil⟩
    have hlen : (bareL (s.take i)).length = 5 * i := by rw [bareL_len, List.length_take, Nat.min_eq_left hi]
    have htk := bareL_take hx
    have hcut : ∀ w, (Instr.sliceAt 9 (str s) (some (Z i)) (some (Z (i + 1 : Nat))) none).run Tryd.prog w = .ok (str [x]) w := fun w => by rw [← cut_one hx]; exact both_run (by omega) hil w
    have hth := toHex_any [x] (by simp)
    have h2 : hexL [x] = hex2 x := by simp [hexL]
    rw [h2] at hth
    have hl2 : (hex2 x).length = 2 := rfl
    unfold bare1 at htk
    generalize hex2 x = hx2 at *
    generalize bareL (s.take i) = l at *
    refine goQ [bO .lss 3 (run_lssZ (x := i) (y := s.length) (b := true) (by simp; omega)), bO .add 3 (run_addZ (x := i) (y := 1) (z := (i + 1 : Nat)) (by rw [wz (by omega) (by omega)]; omega)), sLH 9 hcut, kC Tryd.func47 hth, bO .add 9 (addS_run [48, 120] hx2 (by simp; omega)), bO .add 9 (addS_run ([48, 120] ++ hx2) [10] (by simp; omega)), bO .add 9 (addS_run l (([48, 120] ++ hx2) ++ [10]) (by rw [hlen]; simp; omega)), bO .add 3 (run_addZ (x := i) (y := 1) (z := (i + 1 : Nat)) (by rw [wz (by omega) (by omega)]; omega))] (nonR w) I4 fun β9 a9 w9 I9 hb9 => ?_
    obtain ⟨u', Iu⟩ := I9.scr (bodyL Tryd.f46) (scrF 22 baK) (baW s (l ++ (([48, 120] ++ hx2) ++ [10])) (i + 1)) [] 0
    refine endL ⟨s.length - (i + 1), by omega, i + 1, β9, u', rfl, hil, ?_⟩
    rw [htk, ← List.append_assoc [48, 120]]
    exact Iu
  · obtain rfl : i = s.length := by omega
    rw [List.take_length] at I4 ⊢
    refine goQ [bO .lss 3 (run_lssZ (x := s.length) (y := s.length) (b := false) (by simp))] (nonR w) I4 fun β5 a5 w5 I5 hb5 => ?_
    refine endE 0 ?_
    refine goQ [] (nonR w) (I5.exit _) fun β6 a6 w6 I6 hb6 => ?_
    exact outQ (v := str (bareL s)) I6 ⟨rfl, I6.hJ⟩
/-- A piece of a code as text. -/
def lnL (x : UInt8) (r : List UInt8) : List UInt8 := if nmN x.toNat = [] ∨ r.length < ownN x.toNat then bareL (x :: r) else if r = [] then nmN x.toNat ++ [10] else nmN x.toNat ++ [32] ++ hexL r ++ [10]
set_option maxHeartbeats 4000000 in
theorem lines_any {w : World} (hT : Tb w) (x : UInt8) (r : List UInt8) (hr : r.length < 1000000) : Calls Tryd.prog 33 #[str (x :: r)] w fun e w' => e = .returned (str (lnL x r)) ∧ RowKit.Below w.heap.size w w' := by
  have hnm : ∀ w', Tb w' → Calls Tryd.prog 12 #[b8 x.toNat] w' fun e w'' => e = .returned (str (nmN x.toNat)) ∧ RowKit.Below w'.heap.size w' w'' := fun w' h => name_any h x.toNat (u8_lt x)
  have how : ∀ w', Tb w' → Calls Tryd.prog 42 #[b8 x.toNat] w' fun e w'' => e = .returned (Z (ownN x.toNat : Nat)) ∧ RowKit.Below w'.heap.size w' w'' := fun w' _ => owned_any x.toNat (u8_lt x) w'
  have hba : ∀ w', Tb w' → Calls Tryd.prog 46 #[str (x :: r)] w' fun e w'' => e = .returned (str (bareL (x :: r))) ∧ RowKit.Below w'.heap.size w' w'' := fun w' _ => bare_any (x :: r) (by simp; omega) w'
  have hth : ∀ w', Tb w' → Calls Tryd.prog 47 #[str r] w' fun e w'' => e = .returned (str (hexL r)) ∧ RowKit.Below w'.heap.size w' w'' := fun w' _ => toHex_any r (by omega) w'
  have hnl := nmN_len x.toNat (u8_lt x)
  have hhl := hexL_len r
  have hfr : ∀ w, (Instr.sliceAt 9 (str (x :: r)) (some (Z (1 : Nat))) none none).run Tryd.prog w = .ok (str r) w := fun w => from_run (l := x :: r) (k := 1) (by simp) w
  unfold lnL
  generalize bareL (x :: r) = ba at *
  generalize hexL r = hx at *
  generalize nmN x.toNat = nm at *
  generalize ownN x.toNat = ow at *
  refine inQ (J := RowKit.Below w.heap.size w) (F := (· < w.heap.size)) Tryd.func33 (RowKit.Below.refl _ _) fun a I => ?_
  refine goQ [] (nonR w) I fun β a w1 I1 hb => ?_
  refine dwQ 6 [iO 9 (p := str (x :: r)) (i := Z (0 : Nat)) (v := b8 x.toNat) (idx_run rfl), sO 9 hfr] (nonR w) PanOk.post I1 fun a2 w2 I2 => ?_
  have hTT : ∀ w', RowKit.Below w.heap.size w w' → Tb w' := fun _ hb => hT.below hb
  by_cases h1 : nm = []
  · rw [if_pos (.inl h1)]
    refine goT (T := Tb) [cA Tryd.func12 hnm, bO .eql 9 (eqS_run (a := nm) (b := []) (q := true) (by simp [h1])), cA Tryd.func46 hba] (nonR w) hTT I2 fun β3 a3 w3 I3 hb => ?_
    exact outQ (v := str ba) I3 ⟨rfl, I3.hJ⟩
  by_cases h2 : r.length < ow
  · rw [if_pos (.inr h2)]
    refine goT (T := Tb) [cA Tryd.func12 hnm, bO .eql 9 (eqS_run (a := nm) (b := []) (q := false) (by simp [h1])), lnO r, cA Tryd.func42 how, bO .lss 3 (run_lssZ (x := r.length) (y := ow) (b := true) (by simp; omega)), cA Tryd.func46 hba] (nonR w) hTT I2 fun β3 a3 w3 I3 hb => ?_
    exact outQ (v := str ba) I3 ⟨rfl, I3.hJ⟩
  rw [if_neg (by rintro (h | h) <;> contradiction)]
  by_cases h3 : r = []
  · rw [if_pos h3]
    refine goT (T := Tb) [cA Tryd.func12 hnm, bO .eql 9 (eqS_run (a := nm) (b := []) (q := false) (by simp [h1])), lnO r, cA Tryd.func42 how, bO .lss 3 (run_lssZ (x := r.length) (y := ow) (b := false) (by simp; omega)), bO .eql 9 (eqS_run (a := r) (b := []) (q := true) (by simp [h3])), bO .add 9 (addS_run nm [10] (by simp; omega))] (nonR w) hTT I2 fun β3 a3 w3 I3 hb => ?_
    exact outQ (v := str (nm ++ [10])) I3 ⟨rfl, I3.hJ⟩
  · rw [if_neg h3]
    refine goT (T := Tb) [cA Tryd.func12 hnm, bO .eql 9 (eqS_run (a := nm) (b := []) (q := false) (by simp [h1])), lnO r, cA Tryd.func42 how, bO .lss 3 (run_lssZ (x := r.length) (y := ow) (b := false) (by simp; omega)), bO .eql 9 (eqS_run (a := r) (b := []) (q := false) (by simp [h3])), bO .add 9 (addS_run nm [32] (by simp; omega)), cA Tryd.func47 hth, bO .add 9 (addS_run (nm ++ [32]) hx (by simp; omega)), bO .add 9 (addS_run (nm ++ [32] ++ hx) [10] (by simp; omega))] (nonR w) hTT I2 fun β3 a3 w3 I3 hb => ?_
    exact outQ (v := str (nm ++ [32] ++ hx ++ [10])) I3 ⟨rfl, I3.hJ⟩
end Go.Proofs.YtoceebhnhccfdaaDoor
