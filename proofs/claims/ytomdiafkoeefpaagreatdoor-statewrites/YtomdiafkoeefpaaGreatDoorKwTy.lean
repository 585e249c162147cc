/- Out of Ty. -/
import Derived.Test.YtomdiafkoeefpaaGreatDoorKwTe
namespace Go.Proofs.YtomdiafkoeefpaaGreatDoor
open Go.RowKit Go.Sort
set_option linter.unusedVariables false
set_option maxRecDepth 100000
def fewX (l : List Ex) : Prop := l.length ≤ 20 ∧ ∀ x ∈ l, x.2.length ≤ 50
abbrev fwK : List Nat := [0, 1, 2, 3, 20, 21, 22]
abbrev fwV (vv ev : Value) (c : Int) (n i : Nat) : Vs := frm 71 [(0, Sum.inl vv), (1, Sum.inr (0, 0)), (2, Sum.inl (.bool false)), (3, Sum.inl (Z c)), (20, Sum.inl ev), (21, Sum.inl (Z n)), (22, Sum.inl (Z i))]
abbrev fvK : List Nat := [0, 1, 2, 3, 20, 21, 22, 44, 45, 46]
abbrev fvV (vv ev : Value) (c : Int) (n i : Nat) (av : Value) (m j : Nat) : Vs := frm 71 [(0, Sum.inl vv), (1, Sum.inr (0, 0)), (2, Sum.inl (.bool false)), (3, Sum.inl (Z c)), (20, Sum.inl ev), (21, Sum.inl (Z n)), (22, Sum.inl (Z i)), (44, Sum.inl av), (45, Sum.inl (Z m)), (46, Sum.inl (Z j))]
theorem few_state {w : World} {v : Va} {ev : Value} (h : ExI w ev v.2.2.2) : Calls Tryz.prog 10 #[vaV v ev] w fun e w' => Below w.heap.size w w' ∧ ∃ u, e = .returned u ∧ (u = .bool false ∨ u = .bool true ∧ fewX v.2.2.2) := by
  obtain ⟨tu, fi, da, xs⟩ := v
  simp only [] at h
  obtain ⟨ad, cap, rfl, hm⟩ := h
  refine inQ (J := Below w.heap.size w) (F := (· < w.heap.size)) Tryz.func10 (Below.refl _ _) fun a I => ?_
  rcases Nat.lt_or_ge 20 xs.length with q1 | q1
  · refine goQ [lO Tryz.underlying9 (b := da) (n := da.size) rfl, lS Tryz.underlying26 (ad := ad) (n := xs.length) (cap := cap) rfl, bO .gtr 3 (run_gtrZ (x := xs.length) (y := 20) (b := true) (by simp; omega))] (nonR w) I fun β a w1 I hb => ?_
    exact outQ (v := .bool false) I ⟨I.hJ, _, rfl, .inl rfl⟩
  rcases Nat.lt_or_ge 5000 da.size with q2 | q2
  · refine goQ [lO Tryz.underlying9 (b := da) (n := da.size) rfl, lS Tryz.underlying26 (ad := ad) (n := xs.length) (cap := cap) rfl, bO .gtr 3 (run_gtrZ (x := xs.length) (y := 20) (b := false) (by simp; omega)), bO .gtr 3 (run_gtrZ (x := da.size) (y := 5000) (b := true) (by simp; omega))] (nonR w) I fun β a w1 I hb => ?_
    exact outQ (v := .bool false) I ⟨I.hJ, _, rfl, .inl rfl⟩
  refine goQ [lO Tryz.underlying9 (b := da) (n := da.size) rfl, lS Tryz.underlying26 (ad := ad) (n := xs.length) (cap := cap) rfl, bO .gtr 3 (run_gtrZ (x := xs.length) (y := 20) (b := false) (by simp; omega)), bO .gtr 3 (run_gtrZ (x := da.size) (y := 5000) (b := false) (by simp; omega)), lS Tryz.underlying26 (ad := ad) (n := xs.length) (cap := cap) rfl] (nonR w) I fun β a w1 I hb => ?_
  let St : Nat → Act → World → Prop := fun k a w' => ∃ (i : Nat) (c : Int) (β : Nat → Nat) (u : Nat → Value), k = xs.length - i ∧ i ≤ xs.length ∧ (∀ j x, j < i → xs[j]? = some x → x.2.length ≤ 50) ∧
    SI (Below w.heap.size w) (· < w.heap.size) [] β (cfC (bodyL Tryz.f10) (fillF (scrF 71 fwK) u 0 (fwV (.agg #[B tu, .bool fi, .string da, .slice ad xs.length cap]) (.slice ad xs.length cap) c xs.length i)) [(0, #[B tu, .bool fi, .string da, .slice ad xs.length cap])] 1) a w'
  refine lpM (bodyL Tryz.f10) St xs.length ?_ ?_
  · obtain ⟨u, Iu⟩ := I.scr (bodyL Tryz.f10) (scrF 71 fwK) (fwV (.agg #[B tu, .bool fi, .string da, .slice ad xs.length cap]) (.slice ad xs.length cap) da.size xs.length 0) [(0, #[B tu, .bool fi, .string da, .slice ad xs.length cap])] 1
    exact ⟨0, da.size, β, u, by omega, Nat.zero_le _, fun j x h => absurd h (Nat.not_lt_zero j), Iu⟩
  rintro k a3 w3 ⟨i, c, β3, u, rfl, hi, hok, I⟩
  refine wp_cfC (tm := fillF (scrF 71 fwK) u 0 (fwV (.agg #[B tu, .bool fi, .string da, .slice ad xs.length cap]) (.slice ad xs.length cap) c xs.length i)) (rows := [(0, #[B tu, .bool fi, .string da, .slice ad xs.length cap])]) (nx := 1) ?_
  rcases Nat.lt_or_ge i xs.length with hil | hil
  · obtain ⟨⟨sa, al⟩, h1⟩ : ∃ t, xs[i]? = some t := ⟨_, List.getElem?_eq_getElem hil⟩
    obtain ⟨ga, offa, cs, rfl, hlt, hca, av, rfl, ada, capa, rfl, hma⟩ := hm i _ h1
    simp only [] at hca hma
    have hld : ∀ w', Below w.heap.size w w' → (loadVar 38 ⟨ga, offa + i * 2, none⟩).run Tryz.prog w' = .ok (.agg #[.string sa, .slice ada al.length capa]) w' := fun w' hb => loadEx (hca.keep (hb.block ga hlt))
    obtain ⟨c1, hadd⟩ : ∃ c1, IntKind.i64.wrap (c + (sa.size : Int)) = c1 := ⟨_, rfl⟩
    rcases Nat.lt_or_ge 50 al.length with r1 | r1
    · refine goT (T := Below w.heap.size w) [bO .lss 3 (run_lssZ (x := i) (y := xs.length) (b := true) (by simp; omega)), iA 26 Tryz.underlying26 (sz := 2) (by kernel_rfl) (g := ga) (off := offa) (n := xs.length) (cap := cap) hil, ldA 38 hld, lO Tryz.underlying9 (b := sa) (n := sa.size) rfl, bO .add 3 (run_addZ (x := c) (y := sa.size) hadd), lS Tryz.underlying36 (ad := ada) (n := al.length) (cap := capa) rfl, bO .gtr 3 (run_gtrZ (x := al.length) (y := 50) (b := true) (by simp; omega))] (nonR w) (fun _ h => h) I fun β4 a4 w4 I hb4 => ?_
      refine endR (retV (v := .bool false) I ?_)
      exact ⟨I.hJ, _, rfl, .inl rfl⟩
    by_cases r2 : 50000 < c1
    · refine goT (T := Below w.heap.size w) [bO .lss 3 (run_lssZ (x := i) (y := xs.length) (b := true) (by simp; omega)), iA 26 Tryz.underlying26 (sz := 2) (by kernel_rfl) (g := ga) (off := offa) (n := xs.length) (cap := cap) hil, ldA 38 hld, lO Tryz.underlying9 (b := sa) (n := sa.size) rfl, bO .add 3 (run_addZ (x := c) (y := sa.size) hadd), lS Tryz.underlying36 (ad := ada) (n := al.length) (cap := capa) rfl, bO .gtr 3 (run_gtrZ (x := al.length) (y := 50) (b := false) (by simp; omega)), bO .gtr 3 (run_gtrZ (x := c1) (y := 50000) (b := true) (decide_eq_true r2))] (nonR w) (fun _ h => h) I fun β4 a4 w4 I hb4 => ?_
      refine endR (retV (v := .bool false) I ?_)
      exact ⟨I.hJ, _, rfl, .inl rfl⟩
    by_cases r4 : c1 < 0
    · refine goT (T := Below w.heap.size w) [bO .lss 3 (run_lssZ (x := i) (y := xs.length) (b := true) (by simp; omega)), iA 26 Tryz.underlying26 (sz := 2) (by kernel_rfl) (g := ga) (off := offa) (n := xs.length) (cap := cap) hil, ldA 38 hld, lO Tryz.underlying9 (b := sa) (n := sa.size) rfl, bO .add 3 (run_addZ (x := c) (y := sa.size) hadd), lS Tryz.underlying36 (ad := ada) (n := al.length) (cap := capa) rfl, bO .gtr 3 (run_gtrZ (x := al.length) (y := 50) (b := false) (by simp; omega)), bO .gtr 3 (run_gtrZ (x := c1) (y := 50000) (b := false) (decide_eq_false r2)), bO .lss 3 (run_lssZ (x := c1) (y := 0) (b := true) (decide_eq_true r4))] (nonR w) (fun _ h => h) I fun β4 a4 w4 I hb4 => ?_
      refine endR (retV (v := .bool false) I ?_)
      exact ⟨I.hJ, _, rfl, .inl rfl⟩
    refine goT (T := Below w.heap.size w) [bO .lss 3 (run_lssZ (x := i) (y := xs.length) (b := true) (by simp; omega)), iA 26 Tryz.underlying26 (sz := 2) (by kernel_rfl) (g := ga) (off := offa) (n := xs.length) (cap := cap) hil, ldA 38 hld, lO Tryz.underlying9 (b := sa) (n := sa.size) rfl, bO .add 3 (run_addZ (x := c) (y := sa.size) hadd), lS Tryz.underlying36 (ad := ada) (n := al.length) (cap := capa) rfl, bO .gtr 3 (run_gtrZ (x := al.length) (y := 50) (b := false) (by simp; omega)), bO .gtr 3 (run_gtrZ (x := c1) (y := 50000) (b := false) (decide_eq_false r2)), bO .lss 3 (run_lssZ (x := c1) (y := 0) (b := false) (decide_eq_false r4)), lS Tryz.underlying36 (ad := ada) (n := al.length) (cap := capa) rfl] (nonR w) (fun _ h => h) I fun β4 a4 w4 I hb4 => ?_
    let St2 : Nat → Act → World → Prop := fun k a w' => ∃ (j : Nat) (d : Int) (β : Nat → Nat) (u : Nat → Value), k = al.length - j ∧ j ≤ al.length ∧
      SI (Below w.heap.size w) (· < w.heap.size) [] β (cfC (bodyL2 Tryz.f10) (fillF (scrF 71 fvK) u 0 (fvV (.agg #[B tu, .bool fi, .string da, .slice (some ⟨ga, offa, none⟩) xs.length cap]) (.slice (some ⟨ga, offa, none⟩) xs.length cap) d xs.length i (.slice ada al.length capa) al.length j)) [(0, #[B tu, .bool fi, .string da, .slice (some ⟨ga, offa, none⟩) xs.length cap])] 1) a w'
    refine lpM (bodyL2 Tryz.f10) St2 al.length ?_ ?_
    · obtain ⟨u', Iu⟩ := I.scr (bodyL2 Tryz.f10) (scrF 71 fvK) (fvV (.agg #[B tu, .bool fi, .string da, .slice (some ⟨ga, offa, none⟩) xs.length cap]) (.slice (some ⟨ga, offa, none⟩) xs.length cap) c1 xs.length i (.slice ada al.length capa) al.length 0) [(0, #[B tu, .bool fi, .string da, .slice (some ⟨ga, offa, none⟩) xs.length cap])] 1
      exact ⟨0, c1, β4, u', by omega, Nat.zero_le _, Iu⟩
    rintro k2 a5 w5 ⟨j, d, β5, u5, rfl, hj, I⟩
    refine wp_cfC (tm := fillF (scrF 71 fvK) u5 0 (fvV (.agg #[B tu, .bool fi, .string da, .slice (some ⟨ga, offa, none⟩) xs.length cap]) (.slice (some ⟨ga, offa, none⟩) xs.length cap) d xs.length i (.slice ada al.length capa) al.length j)) (rows := [(0, #[B tu, .bool fi, .string da, .slice (some ⟨ga, offa, none⟩) xs.length cap])]) (nx := 1) ?_
    rcases Nat.lt_or_ge j al.length with hjl | hjl
    · obtain ⟨⟨de, am, kd, le, ri⟩, h2⟩ : ∃ t, al[j]? = some t := ⟨_, List.getElem?_eq_getElem hjl⟩
      obtain ⟨gb, offb, cs2, rfl, hlt2, hcb, rfl, ham⟩ := hma j _ h2
      have hld2 : ∀ w', Below w.heap.size w w' → (loadVar 59 ⟨gb, offb + j * 8, none⟩).run Tryz.prog w' = .ok (.agg (al8 (de, am, kd, le, ri)).toArray) w' := fun w' hb => loadAl (hcb.keep (hb.block gb hlt2))
      obtain ⟨s1, a1⟩ : ∃ s, IntKind.i64.wrap ((de.size : Int) + (le.size : Int)) = s := ⟨_, rfl⟩
      obtain ⟨s2, a2⟩ : ∃ s, IntKind.i64.wrap (s1 + (ri.size : Int)) = s := ⟨_, rfl⟩
      obtain ⟨s3, a3⟩ : ∃ s, IntKind.i64.wrap (d + s2) = s := ⟨_, rfl⟩
      by_cases r3 : 50000 < s3
      · refine goT (T := Below w.heap.size w) [bO .lss 3 (run_lssZ (x := j) (y := al.length) (b := true) (by simp; omega)), iA 36 Tryz.underlying36 (sz := 8) (by kernel_rfl) (g := gb) (off := offb) (n := al.length) (cap := capa) hjl, ldA 59 hld2, lO Tryz.underlying9 (b := de) (n := de.size) rfl, lO Tryz.underlying9 (b := le) (n := le.size) rfl, bO .add 3 (run_addZ a1), lO Tryz.underlying9 (b := ri) (n := ri.size) rfl, bO .add 3 (run_addZ a2), bO .add 3 (run_addZ a3), bO .gtr 3 (run_gtrZ (x := s3) (y := 50000) (b := true) (decide_eq_true r3))] (nonR w) (fun _ h => h) I fun β6 a6 w6 I hb6 => ?_
        refine endR ?_
        refine @thenR Tryz.prog (bodyPost Tryz.prog Tryz.f10 _) _ _ a6 w6 ?_
        refine retV (v := .bool false) I ?_
        exact ⟨I.hJ, _, rfl, .inl rfl⟩
      by_cases r5 : s3 < 0
      · refine goT (T := Below w.heap.size w) [bO .lss 3 (run_lssZ (x := j) (y := al.length) (b := true) (by simp; omega)), iA 36 Tryz.underlying36 (sz := 8) (by kernel_rfl) (g := gb) (off := offb) (n := al.length) (cap := capa) hjl, ldA 59 hld2, lO Tryz.underlying9 (b := de) (n := de.size) rfl, lO Tryz.underlying9 (b := le) (n := le.size) rfl, bO .add 3 (run_addZ a1), lO Tryz.underlying9 (b := ri) (n := ri.size) rfl, bO .add 3 (run_addZ a2), bO .add 3 (run_addZ a3), bO .gtr 3 (run_gtrZ (x := s3) (y := 50000) (b := false) (decide_eq_false r3)), bO .lss 3 (run_lssZ (x := s3) (y := 0) (b := true) (decide_eq_true r5))] (nonR w) (fun _ h => h) I fun β6 a6 w6 I hb6 => ?_
        refine endR ?_
        refine @thenR Tryz.prog (bodyPost Tryz.prog Tryz.f10 _) _ _ a6 w6 ?_
        refine retV (v := .bool false) I ?_
        exact ⟨I.hJ, _, rfl, .inl rfl⟩
      · refine goT (T := Below w.heap.size w) [bO .lss 3 (run_lssZ (x := j) (y := al.length) (b := true) (by simp; omega)), iA 36 Tryz.underlying36 (sz := 8) (by kernel_rfl) (g := gb) (off := offb) (n := al.length) (cap := capa) hjl, ldA 59 hld2, lO Tryz.underlying9 (b := de) (n := de.size) rfl, lO Tryz.underlying9 (b := le) (n := le.size) rfl, bO .add 3 (run_addZ a1), lO Tryz.underlying9 (b := ri) (n := ri.size) rfl, bO .add 3 (run_addZ a2), bO .add 3 (run_addZ a3), bO .gtr 3 (run_gtrZ (x := s3) (y := 50000) (b := false) (decide_eq_false r3)), bO .lss 3 (run_lssZ (x := s3) (y := 0) (b := false) (decide_eq_false r5)), bO .add 3 (run_addZ (x := j) (y := 1) (z := (j + 1 : Nat)) (by rw [wz (by omega) (by omega)]; omega))] (nonR w) (fun _ h => h) I fun β6 a6 w6 I hb6 => ?_
        obtain ⟨u', Iu⟩ := I.scr (bodyL2 Tryz.f10) (scrF 71 fvK) (fvV (.agg #[B tu, .bool fi, .string da, .slice (some ⟨ga, offa, none⟩) xs.length cap]) (.slice (some ⟨ga, offa, none⟩) xs.length cap) s3 xs.length i (.slice (some ⟨gb, offb, none⟩) al.length capa) al.length (j + 1)) [(0, #[B tu, .bool fi, .string da, .slice (some ⟨ga, offa, none⟩) xs.length cap])] 1
        exact endL ⟨al.length - (j + 1), by omega, j + 1, s3, β6, u', rfl, hjl, Iu⟩
    · obtain rfl : j = al.length := by omega
      refine goQ [bO .lss 3 (run_lssZ (x := al.length) (y := al.length) (b := false) (by simp))] (nonR w) I fun β6 a6 w6 I hb6 => ?_
      refine endE 2 ?_
      refine goQ [bO .add 3 (run_addZ (x := i) (y := 1) (z := (i + 1 : Nat)) (by rw [wz (by omega) (by omega)]; omega))] (nonR w) (I.exit _) fun β7 a7 w7 I hb7 => ?_
      obtain ⟨u', Iu⟩ := I.scr (bodyL Tryz.f10) (scrF 71 fwK) (fwV (.agg #[B tu, .bool fi, .string da, .slice (some ⟨ga, offa, none⟩) xs.length cap]) (.slice (some ⟨ga, offa, none⟩) xs.length cap) d xs.length (i + 1)) [(0, #[B tu, .bool fi, .string da, .slice (some ⟨ga, offa, none⟩) xs.length cap])] 1
      refine endL ⟨xs.length - (i + 1), by omega, i + 1, d, β7, u', rfl, hil, fun j' y hj' hy => ?_, Iu⟩
      rcases Nat.lt_or_ge j' i with hji | hji
      · exact hok j' y hji hy
      · obtain rfl : j' = i := by omega
        rw [h1] at hy; cases hy; exact r1
  · obtain rfl : i = xs.length := by omega
    refine goQ [bO .lss 3 (run_lssZ (x := xs.length) (y := xs.length) (b := false) (by simp))] (nonR w) I fun β4 a4 w4 I hb4 => ?_
    refine endE 0 ?_
    refine goQ [] (nonR w) (I.exit _) fun β5 a5 w5 I hb5 => ?_
    refine outQ (v := .bool true) I ⟨I.hJ, _, rfl, .inr ⟨rfl, q1, fun x hx => ?_⟩⟩
    obtain ⟨j, hj⟩ := List.mem_iff_getElem?.1 hx
    exact hok j x (List.getElem?_eq_some_iff.1 hj).1 hj
abbrev ffK : List Nat := [0, 1, 2, 3, 4]
abbrev ffV (fv : Value) (c : Int) (i : Nat) : Vs := frm 35 [(0, Sum.inl fv), (1, Sum.inr (0, 0)), (2, Sum.inl (.bool false)), (3, Sum.inl (Z c)), (4, Sum.inl (Z i))]
theorem few_fixed {w : World} {f : Fi} {pv : Value} (h : StI w pv f.1) : Calls Tryz.prog 9 #[fxdV f pv] w fun e w' => Below w.heap.size w w' ∧ ∃ u, e = .returned u ∧ (u = .bool false ∨ u = .bool true ∧ f.1.length < 20) := by
  obtain ⟨ps, no, ap, ti⟩ := f
  simp only [] at h
  obtain ⟨ad, cap, rfl, hm⟩ := h
  refine inQ (J := Below w.heap.size w) (F := (· < w.heap.size)) Tryz.func9 (Below.refl _ _) fun a I => ?_
  refine goQ [lO Tryz.underlying9 (b := ap) (n := ap.size) rfl] (nonR w) I fun β a w1 I hb => ?_
  let St : Nat → Act → World → Prop := fun k a w' => ∃ (i : Nat) (c : Int) (β : Nat → Nat) (u : Nat → Value), k = 20 - i ∧ i ≤ 20 ∧ i ≤ ps.length ∧
    SI (Below w.heap.size w) (· < w.heap.size) [] β (cfC (bodyL Tryz.f9) (fillF (scrF 35 ffK) u 0 (ffV (.agg #[.slice ad ps.length cap, B no, .string ap, Z ti]) c i)) [(0, #[.slice ad ps.length cap, B no, .string ap, Z ti])] 1) a w'
  refine lpM (bodyL Tryz.f9) St 20 ?_ ?_
  · obtain ⟨u, Iu⟩ := I.scr (bodyL Tryz.f9) (scrF 35 ffK) (ffV (.agg #[.slice ad ps.length cap, B no, .string ap, Z ti]) ap.size 0) [(0, #[.slice ad ps.length cap, B no, .string ap, Z ti])] 1
    exact ⟨0, ap.size, β, u, by omega, Nat.zero_le _, Nat.zero_le _, Iu⟩
  rintro k a3 w3 ⟨i, c, β3, u, rfl, hi, hip, I⟩
  refine wp_cfC (tm := fillF (scrF 35 ffK) u 0 (ffV (.agg #[.slice ad ps.length cap, B no, .string ap, Z ti]) c i)) (rows := [(0, #[.slice ad ps.length cap, B no, .string ap, Z ti])]) (nx := 1) ?_
  rcases Nat.lt_or_ge i ps.length with hil | hil
  · rcases Nat.lt_or_ge i 20 with hi20 | hi20
    · obtain ⟨x, h1⟩ : ∃ t, ps[i]? = some t := ⟨_, List.getElem?_eq_getElem hil⟩
      obtain ⟨ga, offa, cs, rfl, hlt, hca, rfl⟩ := hm i _ h1
      obtain ⟨c1, hc1⟩ : ∃ c1, IntKind.i64.wrap (c + (x.size : Int)) = c1 := ⟨_, rfl⟩
      have hld : ∀ w', Below w.heap.size w w' → (loadVar 9 ⟨ga, offa + i * 1, none⟩).run Tryz.prog w' = .ok (.string x) w' := fun w' hb => loadSt (hca.keep (hb.block ga hlt))
      refine goT (T := Below w.heap.size w) [lS Tryz.underlying22 (ad := some ⟨ga, offa, none⟩) (n := ps.length) (cap := cap) rfl, bO .lss 3 (run_lssZ (x := i) (y := ps.length) (b := true) (by simp; omega)), bO .lss 3 (run_lssZ (x := i) (y := 20) (b := true) (by simp; omega)), iA 22 Tryz.underlying22 (sz := 1) (by kernel_rfl) (g := ga) (off := offa) (n := ps.length) (cap := cap) hil, ldA 9 hld, lO Tryz.underlying9 (b := x) (n := x.size) rfl, bO .add 3 (run_addZ (x := c) (y := x.size) hc1), bO .add 3 (run_addZ (x := i) (y := 1) (z := (i + 1 : Nat)) (by rw [wz (by omega) (by omega)]; omega))] (nonR w) (fun _ h => h) I fun β4 a4 w4 I hb4 => ?_
      obtain ⟨u', Iu⟩ := I.scr (bodyL Tryz.f9) (scrF 35 ffK) (ffV (.agg #[.slice (some ⟨ga, offa, none⟩) ps.length cap, B no, .string ap, Z ti]) c1 (i + 1)) [(0, #[.slice (some ⟨ga, offa, none⟩) ps.length cap, B no, .string ap, Z ti])] 1
      exact endL ⟨20 - (i + 1), by omega, i + 1, c1, β4, u', rfl, hi20, hil, Iu⟩
    · obtain rfl : i = 20 := by omega
      refine goQ [lS Tryz.underlying22 (ad := ad) (n := ps.length) (cap := cap) rfl, bO .lss 3 (run_lssZ (x := (20 : Nat)) (y := ps.length) (b := true) (by simp; omega)), bO .lss 3 (run_lssZ (x := (20 : Nat)) (y := 20) (b := false) (by simp))] (nonR w) I fun β4 a4 w4 I hb4 => ?_
      refine endE 0 ?_
      refine goQ [lS Tryz.underlying22 (ad := ad) (n := ps.length) (cap := cap) rfl, bO .lss 3 (run_lssZ (x := ps.length) (y := 20) (b := false) (by simp; omega))] (nonR w) (I.exit _) fun β5 a5 w5 I hb5 => ?_
      exact outQ (v := .bool false) I ⟨I.hJ, _, rfl, .inl rfl⟩
  · obtain rfl : i = ps.length := by omega
    refine goQ [lS Tryz.underlying22 (ad := ad) (n := ps.length) (cap := cap) rfl, bO .lss 3 (run_lssZ (x := ps.length) (y := ps.length) (b := false) (by simp))] (nonR w) I fun β4 a4 w4 I hb4 => ?_
    refine endE 0 ?_
    rcases Nat.lt_or_ge ps.length 20 with hp | hp
    · by_cases hc2 : c < 20000
      · refine goQ [lS Tryz.underlying22 (ad := ad) (n := ps.length) (cap := cap) rfl, bO .lss 3 (run_lssZ (x := ps.length) (y := 20) (b := true) (by simp; omega)), bO .lss 3 (run_lssZ (x := c) (y := 20000) (b := true) (decide_eq_true hc2))] (nonR w) (I.exit _) fun β5 a5 w5 I hb5 => ?_
        exact outQ (v := .bool true) I ⟨I.hJ, _, rfl, .inr ⟨rfl, hp⟩⟩
      · refine goQ [lS Tryz.underlying22 (ad := ad) (n := ps.length) (cap := cap) rfl, bO .lss 3 (run_lssZ (x := ps.length) (y := 20) (b := true) (by simp; omega)), bO .lss 3 (run_lssZ (x := c) (y := 20000) (b := false) (decide_eq_false hc2))] (nonR w) (I.exit _) fun β5 a5 w5 I hb5 => ?_
        exact outQ (v := .bool false) I ⟨I.hJ, _, rfl, .inl rfl⟩
    · refine goQ [lS Tryz.underlying22 (ad := ad) (n := ps.length) (cap := cap) rfl, bO .lss 3 (run_lssZ (x := ps.length) (y := 20) (b := false) (by simp; omega))] (nonR w) (I.exit _) fun β5 a5 w5 I hb5 => ?_
      exact outQ (v := .bool false) I ⟨I.hJ, _, rfl, .inl rfl⟩
end Go.Proofs.YtomdiafkoeefpaaGreatDoor
