/- Out of Yf. -/
import Derived.Test.YtomdiafkoeefpaaGreatDoorKtYa
import Derived.Test.YtomdiafkoeefpaaGreatDoorKtWk
import Derived.Test.YtomdiafkoeefpaaGreatDoorKtVg
namespace Go.Proofs.YtomdiafkoeefpaaGreatDoor
open Go.RowKit Go.Sort
set_option linter.unusedVariables false
set_option maxRecDepth 100000
abbrev rtK : List Nat := [0, 1, 4, 5, 6, 7]
abbrev rtV (ev : Value) (s : ByteArray) (i : Nat) : Vs := frm 55 [(0, Sum.inl ev), (1, Sum.inl (.string s)), (4, Sum.inr (0, 0)), (5, Sum.inl (.bool false)), (6, Sum.inr (1, 0)), (7, Sum.inl (Z i))]
abbrev ruK : List Nat := [0, 1, 4, 5, 6, 7, 8]
abbrev ruV (ev : Value) (s : ByteArray) (i j : Nat) : Vs := frm 55 [(0, Sum.inl ev), (1, Sum.inl (.string s)), (4, Sum.inr (0, 0)), (5, Sum.inl (.bool false)), (6, Sum.inr (1, 0)), (7, Sum.inl (Z i)), (8, Sum.inl (Z j))]
set_option maxHeartbeats 4000000 in
theorem rtotal_any {w : World} {ev : Value} {l : List Ex} (h : ExI w ev l) (s : ByteArray) (hok : okX l) : Calls Tryz.prog 13 #[ev, .string s] w fun e w' => e = .returned (totV l s) ∧ Below w.heap.size w w' := by
  obtain ⟨ad, cap, rfl, hm⟩ := h
  obtain ⟨hl, hla⟩ := hok
  refine inQ (J := Below w.heap.size w) (F := (· < w.heap.size)) Tryz.func13 (Below.refl _ _) fun a I => ?_
  refine goQ [dO 33 [] bd_Uz] (nonR w) I fun β a w1 I hb => ?_
  let St : Nat → Act → World → Prop := fun k a w' => ∃ (i X : Nat) (β : Nat → Nat) (u : Nat → Value), k = l.length - i ∧ i ≤ l.length ∧ X = totS (l.take i) s ∧ X < W ∧
    SI (Below w.heap.size w) (· < w.heap.size) [] β (cfC (bodyL Tryz.f13) (fillF (scrF 55 rtK) u 0 (rtV (.slice ad l.length cap) s i)) [(0, rU 0), (1, rU X)] 2) a w'
  refine lpM (bodyL Tryz.f13) St l.length ?_ ?_
  · obtain ⟨u, Iu⟩ := I.scr (bodyL Tryz.f13) (scrF 55 rtK) (rtV (.slice ad l.length cap) s 0) [(0, rU 0), (1, rU 0)] 2
    exact ⟨0, 0, β, u, by omega, Nat.zero_le _, rfl, W_pos, Iu⟩
  rintro k a3 w3 ⟨i, X, β3, u, rfl, hi, hX, hW, I⟩
  refine wp_cfC (tm := fillF (scrF 55 rtK) u 0 (rtV (.slice ad l.length cap) s i)) (rows := [(0, rU 0), (1, rU X)]) (nx := 2) ?_
  rcases Nat.lt_or_ge i l.length with hil | hil
  · obtain ⟨⟨sa, al⟩, h1⟩ : ∃ t, l[i]? = some t := ⟨_, List.getElem?_eq_getElem hil⟩
    obtain ⟨ga, offa, cs, rfl, hlt, hca, av, rfl, ada, capa, rfl, hma⟩ := hm i _ h1
    have hal : al.length < 1000000000 := hla _ (List.mem_of_getElem? h1)
    simp only [] at hca hma
    have hstep := totS_take (s := s) h1
    rw [← hX] at hstep
    simp only [] at hstep
    have hld9 : ∀ w', Below w.heap.size w w' → (loadVar 9 ⟨ga, offa + i * 2 + 0, none⟩).run Tryz.prog w' = .ok (.string sa) w' := fun w' hb => load1 (hca.keep (hb.block ga hlt)) 0 rfl 9 Tryz.underlying9 rfl
    have hld36 : ∀ w', Below w.heap.size w w' → (loadVar 36 ⟨ga, offa + i * 2 + 1, none⟩).run Tryz.prog w' = .ok (.slice ada al.length capa) w' := fun w' hb => load1 (hca.keep (hb.block ga hlt)) 1 rfl 36 Tryz.underlying36 rfl
    refine goQ [lS Tryz.underlying26 (ad := some ⟨ga, offa, none⟩) (n := l.length) (cap := cap) rfl, bO .lss 3 (run_lssZ (x := i) (y := l.length) (b := true) (by simp; omega))] (nonR w) I fun β4 a4 w4 I hb4 => ?_
    let St2 : Nat → Act → World → Prop := fun k a w' => ∃ (j V : Nat) (β : Nat → Nat) (u : Nat → Value), k = al.length - j ∧ j ≤ al.length ∧ V = X + (if sa = s then sumA (al.take j) else 0) ∧ V < W ∧
      SI (Below w.heap.size w) (· < w.heap.size) [] β (cfC (bodyL2 Tryz.f13) (fillF (scrF 55 ruK) u 0 (ruV (.slice (some ⟨ga, offa, none⟩) l.length cap) s i j)) [(0, rU 0), (1, rU V)] 2) a w'
    refine lpM (bodyL2 Tryz.f13) St2 al.length ?_ ?_
    · obtain ⟨u', Iu⟩ := I.scr (bodyL2 Tryz.f13) (scrF 55 ruK) (ruV (.slice (some ⟨ga, offa, none⟩) l.length cap) s i 0) [(0, rU 0), (1, rU X)] 2
      exact ⟨0, X, β4, u', by omega, Nat.zero_le _, by rw [List.take_zero]; split <;> rfl, hW, Iu⟩
    rintro k2 a5 w5 ⟨j, V, β5, u5, rfl, hj, hV, hW5, I5⟩
    refine wp_cfC (tm := fillF (scrF 55 ruK) u5 0 (ruV (.slice (some ⟨ga, offa, none⟩) l.length cap) s i j)) (rows := [(0, rU 0), (1, rU V)]) (nx := 2) ?_
    rcases Nat.lt_or_ge j al.length with hjl | hjl
    · obtain ⟨⟨de, am, kd, le, ri⟩, h2⟩ : ∃ t, al[j]? = some t := ⟨_, List.getElem?_eq_getElem hjl⟩
      obtain ⟨gb, offb, cs2, rfl, hlt2, hcb, rfl, ham⟩ := hma j _ h2
      have ham : am < W := ham
      have hst2 := sumA_take h2
      simp only [] at hst2
      by_cases has : ¬ sa = s
      · refine goT (T := Below w.heap.size w) [iA 26 Tryz.underlying26 (sz := 2) (by kernel_rfl) (g := ga) (off := offa) (n := l.length) (cap := cap) hil, ldA 36 hld36, lS Tryz.underlying36 (ad := some ⟨gb, offb, none⟩) (n := al.length) (cap := capa) rfl, bO .lss 3 (run_lssZ (x := j) (y := al.length) (b := true) (by simp; omega)), iA 26 Tryz.underlying26 (sz := 2) (by kernel_rfl) (g := ga) (off := offa) (n := l.length) (cap := cap) hil, ldA 9 hld9, bO .eql 9 (eqT_run (a := sa) (b := s) (q := false) (decide_eq_false has))] (nonR w) (fun _ h => h) I5 fun β6 a6 w6 I hb6 => ?_
        refine endE 2 ?_
        refine goQ [bO .add 3 (run_addZ (x := i) (y := 1) (z := (i + 1 : Nat)) (by rw [wz (by omega) (by omega)]; omega))] (nonR w) (I.exit _) fun β7 a7 w7 I hb7 => ?_
        obtain ⟨u', Iu⟩ := I.scr (bodyL Tryz.f13) (scrF 55 rtK) (rtV (.slice (some ⟨ga, offa, none⟩) l.length cap) s (i + 1)) [(0, rU 0), (1, rU V)] 2
        rw [if_neg has] at hstep hV
        exact endL ⟨l.length - (i + 1), by omega, i + 1, V, β7, u', rfl, hil, by rw [hstep]; exact hV, hW5, Iu⟩
      have has := Classical.not_not.1 has
      rw [if_pos has] at hstep hV
      have hld33 : ∀ w', Below w.heap.size w w' → (loadVar 33 ⟨gb, offb + j * 8 + 1, none⟩).run Tryz.prog w' = .ok (U am) w' := fun w' hb => loadAm (a := (de, am, kd, le, ri)) (hcb.keep (hb.block gb hlt2))
      refine goT (T := Below w.heap.size w) [iA 26 Tryz.underlying26 (sz := 2) (by kernel_rfl) (g := ga) (off := offa) (n := l.length) (cap := cap) hil, ldA 36 hld36, lS Tryz.underlying36 (ad := some ⟨gb, offb, none⟩) (n := al.length) (cap := capa) rfl, bO .lss 3 (run_lssZ (x := j) (y := al.length) (b := true) (by simp; omega)), iA 26 Tryz.underlying26 (sz := 2) (by kernel_rfl) (g := ga) (off := offa) (n := l.length) (cap := cap) hil, ldA 9 hld9, bO .eql 9 (eqT_run (a := sa) (b := s) (q := true) (decide_eq_true has))] (nonR w) (fun _ h => h) I5 fun β6 a6 w6 I hb6 => ?_
      rcases Nat.lt_or_ge (V + am) W with hov | hov
      · have hA : ∀ w', Below w.heap.size w w' → Calls Tryz.prog 37 #[U V, U am] w' fun e w'' => e = .returned (.tuple #[U (V + am), .bool false]) ∧ Below w'.heap.size w' w'' := fun w' _ => by
          have := radd_any V am hW5 ham w'
          rwa [show addW V am = V + am from Nat.mod_eq_of_lt hov, show ovW V am = false from decide_eq_false (by omega)] at this
        obtain ⟨V2, hV2⟩ : ∃ x, V + am = x := ⟨_, rfl⟩
        rw [hV2] at hA hov
        refine dwA (T := Below w.heap.size w) 14 15 9 49 V2 [iA 26 Tryz.underlying26 (sz := 2) (by kernel_rfl) (g := ga) (off := offa) (n := l.length) (cap := cap) hil, ldA 36 hld36, iA 36 Tryz.underlying36 (sz := 8) (by kernel_rfl) (g := gb) (off := offb) (n := al.length) (cap := capa) hjl, ldA 33 hld33, cA Tryz.func37 hA] (nonR w) (fun _ h => h) I fun b vs β9 a9 w9 hag I => ?_
        refine goQ [bO .add 3 (run_addZ (x := j) (y := 1) (z := (j + 1 : Nat)) (by rw [wz (by omega) (by omega)]; omega))] (nonR w) I fun β10 a10 w10 I hb10 => ?_
        obtain ⟨u', Iu⟩ := I.scr (bodyL2 Tryz.f13) (scrF 55 ruK) (ruV (.slice (some ⟨ga, offa, none⟩) l.length cap) s i (j + 1)) [(0, rU 0), (1, rU V2)] 2
        exact endL ⟨al.length - (j + 1), by omega, j + 1, V2, β10, u', rfl, hjl, by rw [if_pos has, hst2]; omega, hov, Iu⟩
      · have hA : ∀ w', Below w.heap.size w w' → Calls Tryz.prog 37 #[U V, U am] w' fun e w'' => e = .returned (.tuple #[U (addW V am), .bool true]) ∧ Below w'.heap.size w' w'' := fun w' _ => by
          have := radd_any V am hW5 ham w'
          rwa [show ovW V am = true from decide_eq_true hov] at this
        obtain ⟨V2, hV2⟩ : ∃ x, addW V am = x := ⟨_, rfl⟩
        rw [hV2] at hA
        refine dwA (T := Below w.heap.size w) 14 15 9 49 V2 [iA 26 Tryz.underlying26 (sz := 2) (by kernel_rfl) (g := ga) (off := offa) (n := l.length) (cap := cap) hil, ldA 36 hld36, iA 36 Tryz.underlying36 (sz := 8) (by kernel_rfl) (g := gb) (off := offb) (n := al.length) (cap := capa) hjl, ldA 33 hld33, cA Tryz.func37 hA] (nonR w) (fun _ h => h) I fun b vs β9 a9 w9 hag I => ?_
        refine goQ [dO 33 [] bd_Uz] (nonR w) I fun β10 a10 w10 I hb10 => ?_
        refine endR (thenR (retV (v := .tuple #[U 0, .bool false]) I ⟨?_, I.hJ⟩))
        unfold totV
        rw [if_neg]
        have q1 := totS_le (l := l) (s := s) (i + 1)
        have q2 := sumA_le (l := al) (j + 1)
        omega
    · obtain rfl : j = al.length := by omega
      rw [List.take_length] at hV
      refine goT (T := Below w.heap.size w) [iA 26 Tryz.underlying26 (sz := 2) (by kernel_rfl) (g := ga) (off := offa) (n := l.length) (cap := cap) hil, ldA 36 hld36, lS Tryz.underlying36 (ad := ada) (n := al.length) (cap := capa) rfl, bO .lss 3 (run_lssZ (x := al.length) (y := al.length) (b := false) (by simp))] (nonR w) (fun _ h => h) I5 fun β6 a6 w6 I hb6 => ?_
      refine endE 2 ?_
      refine goQ [bO .add 3 (run_addZ (x := i) (y := 1) (z := (i + 1 : Nat)) (by rw [wz (by omega) (by omega)]; omega))] (nonR w) (I.exit _) fun β7 a7 w7 I hb7 => ?_
      obtain ⟨u', Iu⟩ := I.scr (bodyL Tryz.f13) (scrF 55 rtK) (rtV (.slice (some ⟨ga, offa, none⟩) l.length cap) s (i + 1)) [(0, rU 0), (1, rU V)] 2
      exact endL ⟨l.length - (i + 1), by omega, i + 1, V, β7, u', rfl, hil, by rw [hstep]; exact hV, hW5, Iu⟩
  · obtain rfl : i = l.length := by omega
    rw [List.take_length] at hX
    refine goQ [lS Tryz.underlying26 (ad := ad) (n := l.length) (cap := cap) rfl, bO .lss 3 (run_lssZ (x := l.length) (y := l.length) (b := false) (by simp))] (nonR w) I fun β4 a4 w4 I hb4 => ?_
    refine endE 0 ?_
    refine goQ [] (nonR w) (I.exit _) fun β5 a5 w5 I hb5 => ?_
    refine outQ (v := .tuple #[U X, .bool true]) I ⟨?_, I.hJ⟩
    unfold totV
    rw [← hX, if_pos hW]
def destL (s : ByteArray) : List UInt8 := if s.size = 20 then List.replicate 12 0 ++ s.data.toList else []
theorem rdest_any (s : ByteArray) (w : World) : Calls Tryz.prog 19 #[.string s] w fun e w' => e = .returned (str (destL s)) ∧ Below w.heap.size w w' := by
  refine inQ (J := Below w.heap.size w) (F := (· < w.heap.size)) Tryz.func19 (Below.refl _ _) fun a I => ?_
  by_cases h20 : ¬ s.size = 20
  · refine goQ [lO Tryz.underlying9 (b := s) (n := s.size) rfl, bO .neq 3 (run_neqZ (x := s.size) (y := 20) (b := true) (by simp; omega))] (nonR w) I fun β a w1 I hb => ?_
    exact outQ (v := .string ⟨#[]⟩) I ⟨by unfold destL; rw [if_neg h20], I.hJ⟩
  have h20 := Classical.not_not.1 h20
  refine goQ [lO Tryz.underlying9 (b := s) (n := s.size) rfl, bO .neq 3 (run_neqZ (x := s.size) (y := 20) (b := false) (by simp; omega))] (nonR w) I fun β a w1 I hb => ?_
  obtain ⟨v5, w5, hr5, ho5, hb5⟩ := mk_zs (w := w1) (lo := w1.heap.size) (n := 12) (by decide) (Nat.le_refl _)
  refine mslX (t := 60) (l := Z 12) (k := Z 12) I hr5 ?_
  have I5 : SI (Below w.heap.size w) (· < w.heap.size) [] β _ _ w5 := I.moved (Grow.of_below hb5) ((nonR w).loc w1 w5 I.hJ (Grow.of_below hb5)) (fun _ _ h => h) v5
  refine cnvQ (s := 60) (t := 9) (x := v5) I5 (txt_zs ho5) ?_
  have I6 := I5.same (.string (zs 12))
  refine goQ [bO .add 9 (addS_run (List.replicate 12 0) s.data.toList (by have : s.data.toList.length = s.size := Array.length_toList; rw [List.length_replicate]; omega))] (nonR w) I6 fun β7 a7 w7 I hb7 => ?_
  refine outQ (v := str (List.replicate 12 0 ++ s.data.toList)) I ⟨?_, I.hJ⟩
  unfold destL
  rw [if_pos h20]
end Go.Proofs.YtomdiafkoeefpaaGreatDoor
