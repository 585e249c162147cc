/- The document's Afford. -/
import Derived.Test.YtabghfcjpaileaaPe
namespace Go.Proofs.Ytabghfcjpaileaa
open Go.RowKit Go.Sort
set_option linter.unusedVariables false
set_option maxRecDepth 100000
abbrev raK : List Nat := [1, 2, 4, 5, 6]
abbrev raV (v o : Value) (i : Nat) : Vs := frm 32 [(1, Sum.inl v), (2, Sum.inr (0, 0)), (4, Sum.inl (.slice none 0 0)), (5, Sum.inl o), (6, Sum.inl (Z i))]
set_option maxHeartbeats 4000000 in
theorem rafford_any {w : World} {v : Value} {l : List Al} {h : Nat} (hv : AlI w v l) (hl : l.length < 1000000) (hh : h < W) : Calls Try.prog 13 #[U h, v] w fun e w' => ∃ v', e = .returned v' ∧ NW w [nuF v' (cvL h l)] w' := by
  obtain ⟨ad, cap, rfl, hm⟩ := hv
  refine inQ (J := GS w w w.heap.size noK (· < w.heap.size) [] []) (F := GF noK (· < w.heap.size) []) Try.func13 (GS.start w fun f hf => by (cases hf)) fun a I => ?_
  refine goQ [] (GS.rsr _ _ _ _ _ _ _) (I.nil 24 4) fun β1 a1 w1 I hb1 => ?_
  let St : Nat → Act → World → Prop := fun k a w' => ∃ (i : Nat) (β : Nat → Nat) (u : Nat → Value) (ad' : Option Addr) (cap' : Nat), k = l.length - i ∧ i ≤ l.length ∧
    SI (GS w w w.heap.size noK (· < w.heap.size) [] [nuO (.slice ad' i cap') ((cvL h l).take i)]) (GF noK (· < w.heap.size) [nuO (.slice ad' i cap') ((cvL h l).take i)]) [] β (cfC (bodyL Try.f13) (fillF (scrF 32 raK) u 0 (raV (.slice ad l.length cap) (.slice ad' i cap') i)) [(0, rU (lfN h l i))] 1) a w'
  refine lpM (bodyL Try.f13) St l.length ?_ ?_
  · obtain ⟨u, Iu⟩ := I.scr (bodyL Try.f13) (scrF 32 raK) (raV (.slice ad l.length cap) (.slice none 0 0) 0) [(0, rU h)] 1
    exact ⟨0, β1, u, none, 0, by omega, Nat.zero_le _, by rw [lfN_zero]; exact Iu⟩
  rintro k a3 w3 ⟨i, β3, u, ad', cap', rfl, hi, I⟩
  refine wp_cfC (tm := fillF (scrF 32 raK) u 0 (raV (.slice ad l.length cap) (.slice ad' i cap') i)) (rows := [(0, rU (lfN h l i))]) (nx := 1) ?_
  have hR := GS.rsr w w w.heap.size noK (· < w.heap.size) [] [nuO (.slice ad' i cap') ((cvL h l).take i)]
  rcases Nat.lt_or_ge i l.length with hil | hil
  · obtain ⟨x, hx⟩ : ∃ t, l[i]? = some t := ⟨_, List.getElem?_eq_getElem hil⟩
    obtain ⟨g, off, cs, rfl, hlt, hca, rfl, hxl⟩ := hm i _ hx
    have hlU : ∀ w', GS w w w.heap.size noK (· < w.heap.size) [] [nuO (.slice ad' i cap') ((cvL h l).take i)] w' → (loadVar 24 ⟨g, off + i * 8 + 1, none⟩).run Try.prog w' = .ok (U x.2.1) w' := fun w' hw => loadU (hca.keep (hw.bw.block g hlt))
    have hst := lfN_step h hx
    have hlt2 : lfN h l i < W := Nat.lt_of_le_of_lt (lfN_le h l i) hh
    have htk := take_get (cvL_get h hx)
    have hmin := least_any (lfN h l i) x.2.1 hlt2 hxl
    have hsub := subOk rsub_any hlt2 (Nat.min_le_left (lfN h l i) x.2.1)
    have hshl : shN h l i x = min (lfN h l i) x.2.1 := rfl
    rw [← hshl] at hmin hsub
    rw [← hst] at hsub
    clear hst hshl
    obtain ⟨lf1, hf1⟩ : ∃ z, lfN h l (i + 1) = z := ⟨_, rfl⟩
    rw [hf1] at hsub
    generalize shN h l i x = sh at *
    generalize lfN h l i = lf at *
    refine goQ [lnA (some ⟨g, off, none⟩) l.length cap, lT i l.length (by omega)] hR I fun β4 a4 w4 I hb4 => ?_
    refine dwA (T := GS w w w.heap.size noK (· < w.heap.size) [] [nuO (.slice ad' i cap') ((cvL h l).take i)]) 7 8 7 20 sh [ixA g off l.length cap i hil, ldA 24 hlU, kC Try.func24 hmin] hR (fun _ h => h) I fun b vs β5 a5 w5 hag I => ?_
    refine goQ [] hR I fun β6 a6 w6 I hb6 => ?_
    refine app_nu [] [] sh htk I (by rw [List.length_take, cvL_len]; omega) (by omega) fun ad8 cap8 a8 w8 I => ?_
    refine goQ [kC Try.func23 hsub, p1 i (by omega)] (GS.rsr _ _ _ _ _ _ _) I fun β9 a9 w9 I hb9 => ?_
    obtain ⟨u', Iu⟩ := I.scr (bodyL Try.f13) (scrF 32 raK) (raV (.slice (some ⟨g, off, none⟩) l.length cap) (.slice ad8 (i + 1) cap8) (i + 1)) [(0, rU lf1)] 1
    exact endL ⟨l.length - (i + 1), by omega, i + 1, β9, u', ad8, cap8, rfl, hil, by rw [hf1]; exact Iu⟩
  · obtain rfl : i = l.length := by omega
    refine goQ [lnA ad l.length cap, lF l.length l.length (by omega)] hR I fun β4 a4 w4 I hb4 => ?_
    refine endE 0 ?_
    refine goQ [] hR (I.exit _) fun β5 a5 w5 I hb5 => ?_
    have hJ := I.hJ
    rw [← cvL_len h l, List.take_length, cvL_len] at hJ
    exact outQ (v := .slice ad' l.length cap') I ⟨_, rfl, hJ.new1 (cvL_lt hh l)⟩
end Go.Proofs.Ytabghfcjpaileaa
