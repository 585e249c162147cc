/- Laid one behind the other: Eh, Ei. -/
import Derived.Test.YthkpgfbjdabflaaGreatDoorKkEe
namespace Go.Proofs.YthkpgfbjdabflaaGreatDoor
open Go.RowKit Go.Sort Go.Proofs.Tryz
set_option linter.unusedVariables false
set_option maxRecDepth 100000
set_option maxHeartbeats 4000000
def fewR (l : List Ex) : Prop := l.length ≤ 20 ∧ ∀ x ∈ l, x.2.length ≤ 20
theorem fewR.ok {l : List Ex} (h : fewR l) : okX l := ⟨by have := h.1; omega, fun x hx => by have := h.2 x hx; omega⟩
abbrev fwrK : List Nat := [2, 4, 5, 13, 14, 15]
abbrev fwrV (v : Value) (c : Int) (i : Nat) : Vs := frm 57 [(2, Sum.inr (0, 0)), (4, Sum.inl (.bool false)), (5, Sum.inl (Z c)), (13, Sum.inl v), (14, Sum.inl (Z 2)), (15, Sum.inl (Z i))]
abbrev fvrK : List Nat := [2, 4, 5, 13, 14, 15, 37, 38, 39]
abbrev fvrV (v : Value) (c : Int) (i : Nat) (ev : Value) (m j : Nat) : Vs := frm 57 [(2, Sum.inr (0, 0)), (4, Sum.inl (.bool false)), (5, Sum.inl (Z c)), (13, Sum.inl v), (14, Sum.inl (Z 2)), (15, Sum.inl (Z i)), (37, Sum.inl ev), (38, Sum.inl (Z m)), (39, Sum.inl (Z j))]
theorem few_ok {w : World} {f : Fi} {pv : Value} (hp : PaI w pv f.1) {g cap : Nat} (V : Nat → Va) (A : Nat → Option Addr) (C : Nat → Nat) (hx : ∀ i, ExI w (.slice (A i) (V i).2.2.2.length (C i)) (V i).2.2.2)
    (hrow : ∀ i, i < 2 → ∀ w', Below w.heap.size w w' → (loadVar 28 ⟨g, 0 + i * 4, none⟩).run Tryz.prog w' = .ok (vaV (V i) (.slice (A i) (V i).2.2.2.length (C i))) w') :
    Calls Tryz.prog 8 #[fxdV f pv, .slice (some ⟨g, 0, none⟩) 2 cap] w fun e w' => Below w.heap.size w w' ∧ ∃ u, e = .returned u ∧ (u = .bool false ∨ u = .bool true ∧ f.1.length < 20 ∧ ∀ i, i < 2 → fewR (V i).2.2.2) := by
  obtain ⟨adp, capp, rfl, _⟩ := id hp.2
  obtain ⟨ps, no, ap, ti⟩ := f
  refine inQ (J := Below w.heap.size w) (F := (· < w.heap.size)) Tryz.func8 (Below.refl _ _) fun a I => ?_
  refine goQ [lO Tryz.underlying9 (b := ap) (n := ap.size) rfl, lS Tryz.underlying52 (ad := some ⟨g, 0, none⟩) (n := 2) (cap := cap) rfl] (zd w) I fun β1 a1 w1 I1 hb1 => ?_
  refine lpM (zo Tryz.f8) (fun k a w' => ∃ (i : Nat) (c : Int) (β : Nat → Nat) (u : Nat → Value), k = 2 - i ∧ i ≤ 2 ∧ (∀ j, j < i → fewR (V j).2.2.2) ∧ SI (Below w.heap.size w) (· < w.heap.size) [] β (cfC (zo Tryz.f8) (z6 (zv 57 fwrK) u 0 (fwrV (.slice (some ⟨g, 0, none⟩) 2 cap) c i)) [(0, #[.slice adp ps.length capp, B no, .string ap, Z ti])] 1) a w') 2 ?_ ?_
  · obtain ⟨u, Iu⟩ := I1.scr (zo Tryz.f8) (zv 57 fwrK) (fwrV (.slice (some ⟨g, 0, none⟩) 2 cap) ap.size 0) [(0, #[.slice adp ps.length capp, B no, .string ap, Z ti])] 1
    exact ⟨0, ap.size, β1, u, by omega, Nat.zero_le _, fun j h => absurd h (Nat.not_lt_zero j), Iu⟩
  rintro k a3 w3 ⟨i, c, β3, u, rfl, hi, hok, I3⟩
  refine y7 (tm := z6 (zv 57 fwrK) u 0 (fwrV (.slice (some ⟨g, 0, none⟩) 2 cap) c i)) (rows := [(0, #[.slice adp ps.length capp, B no, .string ap, Z ti])]) (nx := 1) ?_
  rcases Nat.lt_or_ge i 2 with hil | hil
  · have hld := hrow i hil
    have hxi := hx i
    obtain ⟨vi, hvi⟩ : ∃ v, V i = v := ⟨_, rfl⟩
    rw [hvi] at hld hxi
    generalize A i = ada at hld hxi
    generalize C i = capa at hld hxi
    obtain ⟨tu, fi, da, xs⟩ := vi
    simp only [] at hld hxi
    obtain ⟨ad', cap', he', hm⟩ := id hxi
    cases he'
    obtain ⟨c1, hadd⟩ : ∃ c1, IntKind.i64.wrap (c + (da.size : Int)) = c1 := ⟨_, rfl⟩
    rcases Nat.lt_or_ge 20 xs.length with r1 | r1
    · refine goT (T := Below w.heap.size w) [bO .lss 3 (zh (x := i) (y := 2) (b := true) (decide_eq_true (by omega))), iA 52 Tryz.underlying52 (sz := 4) (by kernel_rfl) (g := g) (off := 0) (n := 2) (cap := cap) hil, ldA 28 hld, lO Tryz.underlying9 (b := da) (n := da.size) rfl, bO .add 3 (zn (x := c) (y := da.size) hadd), lS Tryz.underlying26 (ad := ada) (n := xs.length) (cap := capa) rfl, bO .gtr 3 (yf (x := xs.length) (y := 20) (b := true) (decide_eq_true (by omega)))] (zd w) (fun _ h => h) I3 fun β4 a4 w4 I4 hb4 => ?_
      exact endR (retV (v := .bool false) I4 ⟨I4.hJ, _, rfl, .inl rfl⟩)
    by_cases r2 : 5000 < c1
    · refine goT (T := Below w.heap.size w) [bO .lss 3 (zh (x := i) (y := 2) (b := true) (decide_eq_true (by omega))), iA 52 Tryz.underlying52 (sz := 4) (by kernel_rfl) (g := g) (off := 0) (n := 2) (cap := cap) hil, ldA 28 hld, lO Tryz.underlying9 (b := da) (n := da.size) rfl, bO .add 3 (zn (x := c) (y := da.size) hadd), lS Tryz.underlying26 (ad := ada) (n := xs.length) (cap := capa) rfl, bO .gtr 3 (yf (x := xs.length) (y := 20) (b := false) (decide_eq_false (by omega))), bO .gtr 3 (yf (x := c1) (y := 5000) (b := true) (decide_eq_true r2))] (zd w) (fun _ h => h) I3 fun β4 a4 w4 I4 hb4 => ?_
      exact endR (retV (v := .bool false) I4 ⟨I4.hJ, _, rfl, .inl rfl⟩)
    by_cases r4 : c1 < 0
    · refine goT (T := Below w.heap.size w) [bO .lss 3 (zh (x := i) (y := 2) (b := true) (decide_eq_true (by omega))), iA 52 Tryz.underlying52 (sz := 4) (by kernel_rfl) (g := g) (off := 0) (n := 2) (cap := cap) hil, ldA 28 hld, lO Tryz.underlying9 (b := da) (n := da.size) rfl, bO .add 3 (zn (x := c) (y := da.size) hadd), lS Tryz.underlying26 (ad := ada) (n := xs.length) (cap := capa) rfl, bO .gtr 3 (yf (x := xs.length) (y := 20) (b := false) (decide_eq_false (by omega))), bO .gtr 3 (yf (x := c1) (y := 5000) (b := false) (decide_eq_false r2)), bO .lss 3 (zh (x := c1) (y := 0) (b := true) (decide_eq_true r4))] (zd w) (fun _ h => h) I3 fun β4 a4 w4 I4 hb4 => ?_
      exact endR (retV (v := .bool false) I4 ⟨I4.hJ, _, rfl, .inl rfl⟩)
    refine goT (T := Below w.heap.size w) [bO .lss 3 (zh (x := i) (y := 2) (b := true) (decide_eq_true (by omega))), iA 52 Tryz.underlying52 (sz := 4) (by kernel_rfl) (g := g) (off := 0) (n := 2) (cap := cap) hil, ldA 28 hld, lO Tryz.underlying9 (b := da) (n := da.size) rfl, bO .add 3 (zn (x := c) (y := da.size) hadd), lS Tryz.underlying26 (ad := ada) (n := xs.length) (cap := capa) rfl, bO .gtr 3 (yf (x := xs.length) (y := 20) (b := false) (decide_eq_false (by omega))), bO .gtr 3 (yf (x := c1) (y := 5000) (b := false) (decide_eq_false r2)), bO .lss 3 (zh (x := c1) (y := 0) (b := false) (decide_eq_false r4)), lS Tryz.underlying26 (ad := ada) (n := xs.length) (cap := capa) rfl] (zd w) (fun _ h => h) I3 fun β4 a4 w4 I4 hb4 => ?_
    refine lpM (vk Tryz.f8) (fun k a w' => ∃ (j : Nat) (β : Nat → Nat) (u : Nat → Value), k = xs.length - j ∧ j ≤ xs.length ∧ (∀ q x, q < j → xs[q]? = some x → x.2.length ≤ 20) ∧ SI (Below w.heap.size w) (· < w.heap.size) [] β (cfC (vk Tryz.f8) (z6 (zv 57 fvrK) u 0 (fvrV (.slice (some ⟨g, 0, none⟩) 2 cap) c1 i (.slice ada xs.length capa) xs.length j)) [(0, #[.slice adp ps.length capp, B no, .string ap, Z ti])] 1) a w') xs.length ?_ ?_
    · obtain ⟨u', Iu⟩ := I4.scr (vk Tryz.f8) (zv 57 fvrK) (fvrV (.slice (some ⟨g, 0, none⟩) 2 cap) c1 i (.slice ada xs.length capa) xs.length 0) [(0, #[.slice adp ps.length capp, B no, .string ap, Z ti])] 1
      exact ⟨0, β4, u', by omega, Nat.zero_le _, fun q x h => absurd h (Nat.not_lt_zero q), Iu⟩
    rintro k2 a5 w5 ⟨j, β5, u5, rfl, hj, hall, I5⟩
    refine y7 (tm := z6 (zv 57 fvrK) u5 0 (fvrV (.slice (some ⟨g, 0, none⟩) 2 cap) c1 i (.slice ada xs.length capa) xs.length j)) (rows := [(0, #[.slice adp ps.length capp, B no, .string ap, Z ti])]) (nx := 1) ?_
    rcases Nat.lt_or_ge j xs.length with hjl | hjl
    · obtain ⟨⟨sa, al⟩, h1⟩ : ∃ t, xs[j]? = some t := ⟨_, List.getElem?_eq_getElem hjl⟩
      obtain ⟨ga, offa, cs, rfl, hlt, hca, av, rfl, ad2, cap2, rfl, hma⟩ := hm j _ h1
      simp only [] at hca
      have hld2 : ∀ w', Below w.heap.size w w' → (loadVar 43 ⟨ga, offa + j * 2, none⟩).run Tryz.prog w' = .ok (.agg #[.string sa, .slice ad2 al.length cap2]) w' := fun w' hb => loadEx (hca.keep (hb.block ga hlt))
      rcases Nat.lt_or_ge 20 al.length with r5 | r5
      · refine goT (T := Below w.heap.size w) [bO .lss 3 (zh (x := j) (y := xs.length) (b := true) (decide_eq_true (by omega))), iA 26 Tryz.underlying26 (sz := 2) (by kernel_rfl) (g := ga) (off := offa) (n := xs.length) (cap := capa) hjl, ldA 43 hld2, lS Tryz.underlying41 (ad := ad2) (n := al.length) (cap := cap2) rfl, bO .gtr 3 (yf (x := al.length) (y := 20) (b := true) (decide_eq_true (by omega)))] (zd w) (fun _ h => h) I5 fun β6 a6 w6 I6 hb6 => ?_
        refine endR ?_
        refine @thenR Tryz.prog (bodyPost Tryz.prog Tryz.f8 _) _ _ a6 w6 ?_
        exact retV (v := .bool false) I6 ⟨I6.hJ, _, rfl, .inl rfl⟩
      · refine goT (T := Below w.heap.size w) [bO .lss 3 (zh (x := j) (y := xs.length) (b := true) (decide_eq_true (by omega))), iA 26 Tryz.underlying26 (sz := 2) (by kernel_rfl) (g := ga) (off := offa) (n := xs.length) (cap := capa) hjl, ldA 43 hld2, lS Tryz.underlying41 (ad := ad2) (n := al.length) (cap := cap2) rfl, bO .gtr 3 (yf (x := al.length) (y := 20) (b := false) (decide_eq_false (by omega))), bO .add 3 (zn (x := j) (y := 1) (z := (j + 1 : Nat)) (by rw [wz (by omega) (by omega)]; omega))] (zd w) (fun _ h => h) I5 fun β6 a6 w6 I6 hb6 => ?_
        obtain ⟨u', Iu⟩ := I6.scr (vk Tryz.f8) (zv 57 fvrK) (fvrV (.slice (some ⟨g, 0, none⟩) 2 cap) c1 i (.slice (some ⟨ga, offa, none⟩) xs.length capa) xs.length (j + 1)) [(0, #[.slice adp ps.length capp, B no, .string ap, Z ti])] 1
        refine kn ⟨xs.length - (j + 1), by omega, j + 1, β6, u', rfl, hjl, fun q x hq hx => ?_, Iu⟩
        rcases Nat.lt_or_ge q j with hji | hji
        · exact hall q x hji hx
        · obtain rfl : q = j := by omega
          rw [h1] at hx; cases hx; exact r5
    · obtain rfl : j = xs.length := by omega
      refine goQ [bO .lss 3 (zh (x := xs.length) (y := xs.length) (b := false) (decide_eq_false (by omega)))] (zd w) I5 fun β6 a6 w6 I6 hb6 => ?_
      refine kz 2 ?_
      refine goQ [bO .add 3 (zn (x := i) (y := 1) (z := (i + 1 : Nat)) (by rw [wz (by omega) (by omega)]; omega))] (zd w) (I6.exit _) fun β7 a7 w7 I7 hb7 => ?_
      obtain ⟨u', Iu⟩ := I7.scr (zo Tryz.f8) (zv 57 fwrK) (fwrV (.slice (some ⟨g, 0, none⟩) 2 cap) c1 (i + 1)) [(0, #[.slice adp ps.length capp, B no, .string ap, Z ti])] 1
      refine kn ⟨2 - (i + 1), by omega, i + 1, c1, β7, u', rfl, hil, fun j' hj' => ?_, Iu⟩
      rcases Nat.lt_or_ge j' i with hji | hji
      · exact hok j' hji
      · obtain rfl : j' = i := by omega
        rw [hvi]
        refine ⟨r1, fun x hx => ?_⟩
        obtain ⟨q, hq⟩ := List.mem_iff_getElem?.1 hx
        exact hall q x (List.getElem?_eq_some_iff.1 hq).1 hq
  · obtain rfl : i = 2 := by omega
    by_cases r1 : ps.length < 20
    · by_cases r2 : c ≤ 5000
      · refine goQ [bO .lss 3 (zh (x := (2 : Nat)) (y := 2) (b := false) rfl)] (zd w) I3 fun β4 a4 w4 I4 hb4 => ?_
        refine kz 0 ?_
        refine goQ [lS Tryz.underlying22 (ad := adp) (n := ps.length) (cap := capp) rfl, bO .lss 3 (zh (x := ps.length) (y := 20) (b := true) (decide_eq_true (by omega))), bO .leq 3 (qz (x := c) (y := 5000) (b := true) (decide_eq_true r2))] (zd w) (I4.exit _) fun β5 a5 w5 I5 hb5 => ?_
        exact zm (v := .bool true) I5 ⟨I5.hJ, _, rfl, .inr ⟨rfl, r1, hok⟩⟩
      · refine goQ [bO .lss 3 (zh (x := (2 : Nat)) (y := 2) (b := false) rfl)] (zd w) I3 fun β4 a4 w4 I4 hb4 => ?_
        refine kz 0 ?_
        refine goQ [lS Tryz.underlying22 (ad := adp) (n := ps.length) (cap := capp) rfl, bO .lss 3 (zh (x := ps.length) (y := 20) (b := true) (decide_eq_true (by omega))), bO .leq 3 (qz (x := c) (y := 5000) (b := false) (decide_eq_false r2))] (zd w) (I4.exit _) fun β5 a5 w5 I5 hb5 => ?_
        exact zm (v := .bool false) I5 ⟨I5.hJ, _, rfl, .inl rfl⟩
    · refine goQ [bO .lss 3 (zh (x := (2 : Nat)) (y := 2) (b := false) rfl)] (zd w) I3 fun β4 a4 w4 I4 hb4 => ?_
      refine kz 0 ?_
      refine goQ [lS Tryz.underlying22 (ad := adp) (n := ps.length) (cap := capp) rfl, bO .lss 3 (zh (x := ps.length) (y := 20) (b := false) (decide_eq_false (by omega)))] (zd w) (I4.exit _) fun β5 a5 w5 I5 hb5 => ?_
      exact zm (v := .bool false) I5 ⟨I5.hJ, _, rfl, .inl rfl⟩
abbrev exC : List UInt8 := [96, 1, 95, 82, 96, 32, 95, 243]
abbrev s20 : List UInt8 := List.replicate 20 0
abbrev sab : List UInt8 := [97, 98, 99, 100, 101, 102, 103, 104, 105, 106, 107, 108, 109, 110, 111, 112, 113, 114, 115, 116]
abbrev fxE (c : List UInt8) : Fi := ([⟨s20.toArray⟩, ⟨sab.toArray⟩], 0, ⟨c.toArray⟩, 9)
abbrev vaE (t : Nat) (d : List UInt8) : Va := (t, false, ⟨d.toArray⟩, [])
/-- What is known of a code's run. -/
def RunC (TT : World → Prop) (c i : List UInt8) (fE : Fr) : Prop := ∀ w', TT w' → Calls Tryz.prog 51 #[str c, str i, Z 20000] w' fun e w'' => ∃ ad n cap, e = .returned (frV fE (.slice ad n cap)) ∧ Below w'.heap.size w' w''
def RunA (TT : World → Prop) : Prop := ∀ i : List UInt8, i.length ≤ 65536 → ∃ fE : Fr, alE fE = 0 ∧ RunC TT exC i fE
def RunB (TT : World → Prop) : Prop := ∀ i : List UInt8, i.length ≤ 65536 → ∃ fE : Fr, alE fE = 12 ∧ RunC TT [] i fE
theorem mk_bts (n : Nat) (hn : n ≤ 1000000) (w : World) : (Instr.makeSlice 53 (Z n) (Z n)).run Tryz.prog w = .ok (.slice (some ⟨w.heap.size, 0, none⟩) n n) (w.alloc (.cells (bc (zr n)).toArray 5)) := by
  obtain ⟨i, hi, hz, h1, h2⟩ := hI5
  have hr := run_make (P := Tryz.prog) w 53 5 i (.int .u8 0) Tryz.underlying53 hi hz .i64 .i64 n n (by omega) (Int.le_refl _) (by rw [h2]; omega) (by omega)
  simp only [Int.toNat_natCast] at hr
  rw [hr]
  congr 3
  apply Array.ext
  · rw [size_madeCells, h1]; simp [bc]
  · intro j hj1 hj2
    rw [size_madeCells, h1] at hj1
    simp [madeCells, bc, Value.cells, Nat.mod_one]
theorem mk_b20 (w : World) : (Instr.makeSlice 53 (Z 20) (Z 20)).run Tryz.prog w = .ok (.slice (some ⟨w.heap.size, 0, none⟩) 20 20) (w.alloc (.cells (bc s20).toArray 5)) := mk_bts 20 (by decide) w
theorem bs22 (s t : List UInt8) (w : World) : (Instr.buildSlice 22 2 #[(0, str s), (1, str t)]).run Tryz.prog w = .ok (.slice (some ⟨w.heap.size, 0, none⟩) 2 2) (w.alloc (.cells #[str s, str t] 9)) := by
  simp [go_sem]
theorem bd25e (g : Nat) (c : List UInt8) (w : World) : (Instr.build 25 (([0, 3, 2] : List Nat).zip [.slice (some ⟨g, 0, none⟩) 2 2, Z 9, str c]).toArray).run Tryz.prog w = .ok (.agg #[.slice (some ⟨g, 0, none⟩) 2 2, B 0, str c, Z 9]) w := by kernel_rfl
theorem bd28a (t : Nat) (w : World) : (Instr.build 28 (([0] : List Nat).zip [B t]).toArray).run Tryz.prog w = .ok (.agg #[B t, .bool false, str [], .slice none 0 0]) w := by kernel_rfl
theorem bd28b (t : Nat) (d : List UInt8) (w : World) : (Instr.build 28 (([0, 2] : List Nat).zip [B t, str d]).toArray).run Tryz.prog w = .ok (.agg #[B t, .bool false, str d, .slice none 0 0]) w := by kernel_rfl
theorem run_eqlE {x y : Int} {q : Bool} (h : decide (x = y) = q) (o1 o2 : Operand) (w : World) : (do eqGuard .eql 33 o1 o2 (Z x) (Z y); binOp .eql 33 (Z x) (Z y) : Sem Value).run Tryz.prog w = .ok (.bool q) w := by
  subst h
  by_cases hx : x = y <;> simp [go_sem, hx]
theorem exA_e1 : e1E (fxE exC) (vaE 4 []) (vaE 5 [120]) = 0 ∧ noR (fxE exC) (vaE 5 [120]) = false := by decide +kernel
theorem exB_e1 : e1E (fxE exC) (vaE 4 []) (vaE 6 []) = 11 := by decide +kernel
theorem exC_e1 : e1E (fxE []) (vaE 4 []) (vaE 5 [120]) = 0 ∧ noR (fxE []) (vaE 5 [120]) = false := by decide +kernel
theorem exA_fo (fE : Fr) (h : alE fE = 0) : foE (fxE exC) (vaE 4 []) (vaE 5 [120]) fE = 0 := by
  unfold foE
  rw [if_pos exA_e1.1, exA_e1.2, h]
  rfl
theorem exB_fo (fE : Fr) : foE (fxE exC) (vaE 4 []) (vaE 6 []) fE = 11 := by
  unfold foE
  rw [exB_e1]
  rfl
theorem exC_fo (fE : Fr) (h : alE fE = 12) : foE (fxE []) (vaE 4 []) (vaE 5 [120]) fE = 12 := by
  unfold foE
  rw [if_pos exC_e1.1, exC_e1.2, h]
  rfl
/-- Two texts that lie in a row. -/
theorem two_pa {w : World} {g : Nat} {s t : List UInt8} (h : w.heap[g]? = some (.cells #[str s, str t] 9)) : PaI w (.slice (some ⟨g, 0, none⟩) 2 2) [⟨s.toArray⟩, ⟨t.toArray⟩] := by
  have hr : zb w g #[str s, str t] := ⟨9, h⟩
  refine ⟨⟨some ⟨g, 0, none⟩, 2, rfl, fun i x hx => ⟨g, 0, [.string x], rfl, hr.lt, fun j c hc => ?_, rfl⟩⟩, _, _, rfl, Nat.le_refl _⟩
  match i, hx with
  | 0, hx => cases hx; match j, hc with
    | 0, hc => cases hc; rw [hr.cell]; rfl
    | _ + 1, hc => simp at hc
  | 1, hx => cases hx; match j, hc with
    | 0, hc => cases hc; rw [hr.cell]; rfl
    | _ + 1, hc => simp at hc
  | _ + 2, hx => simp at hx
theorem ex_pr {w : World} {g : Nat} (c : List UInt8) (t u : Nat) (d e : List UInt8) (ht : t < M) (hu : u < M) (h : w.heap[g]? = some (.cells #[str s20, str sab] 9)) : PrI w (fxE c) (.slice (some ⟨g, 0, none⟩) 2 2) (vaE t d) (.slice none 0 0) (vaE u e) (.slice none 0 0) :=
  ⟨two_pa h, SlI.nil _ _, SlI.nil _ _, ht, hu, ⟨show (0 : Nat) < 1000000000 by decide, fun x hx => by cases hx⟩, ⟨show (0 : Nat) < 1000000000 by decide, fun x hx => by cases hx⟩, show (2 : Nat) < 1000000 by decide⟩
theorem awake_ok {TT : World → Prop} (hTT : ∀ w w', TT w → Below w.heap.size w w' → TT w') (hA : RunA TT) (hB : RunB TT) {w : World} (ht : TT w) : Calls Tryz.prog 9 #[] w fun e w' => e = .returned (.bool true) ∧ Below w.heap.size w w' := by
  have f1 : ∀ (w' : World) (g : Nat), TT w' → w'.heap[g]? = some (.cells #[str s20, str sab] 9) → Calls Tryz.prog 16 #[.agg #[.slice (some ⟨g, 0, none⟩) 2 2, B 0, str exC, Z 9], .agg #[B 4, .bool false, str [], .slice none 0 0], .agg #[B 5, .bool false, str [120], .slice none 0 0]] w' fun r w'' => r = .returned (Z 0) ∧ Below w'.heap.size w' w'' := fun w' g hw hg => by
    obtain ⟨fE, h1, h2⟩ := hA (inV (vaE 4 []) (vaE 5 [120]) (mvV (fxE exC) (vaE 5 [120]).1)) (inV_len _ _ _)
    have := zc0 (ex_pr exC 4 5 [] [120] (by decide) (by decide) hg) fE (fun _ w2 hb => h2 w2 (hTT w' w2 hw hb))
    rw [exA_fo fE h1] at this
    exact this
  have f2 : ∀ (w' : World) (g : Nat), TT w' → w'.heap[g]? = some (.cells #[str s20, str sab] 9) → Calls Tryz.prog 16 #[.agg #[.slice (some ⟨g, 0, none⟩) 2 2, B 0, str exC, Z 9], .agg #[B 4, .bool false, str [], .slice none 0 0], .agg #[B 6, .bool false, str [], .slice none 0 0]] w' fun r w'' => r = .returned (Z 11) ∧ Below w'.heap.size w' w'' := fun w' g hw hg => by
    obtain ⟨fE, h1, h2⟩ := hA (inV (vaE 4 []) (vaE 6 []) (mvV (fxE exC) (vaE 6 []).1)) (inV_len _ _ _)
    have := zc0 (ex_pr exC 4 6 [] [] (by decide) (by decide) hg) fE (fun _ w2 hb => h2 w2 (hTT w' w2 hw hb))
    rw [exB_fo fE] at this
    exact this
  have f3 : ∀ (w' : World) (g : Nat), TT w' → w'.heap[g]? = some (.cells #[str s20, str sab] 9) → Calls Tryz.prog 16 #[.agg #[.slice (some ⟨g, 0, none⟩) 2 2, B 0, str [], Z 9], .agg #[B 4, .bool false, str [], .slice none 0 0], .agg #[B 5, .bool false, str [120], .slice none 0 0]] w' fun r w'' => r = .returned (Z 12) ∧ Below w'.heap.size w' w'' := fun w' g hw hg => by
    obtain ⟨fE, h1, h2⟩ := hB (inV (vaE 4 []) (vaE 5 [120]) (mvV (fxE []) (vaE 5 [120]).1)) (inV_len _ _ _)
    have := zc0 (ex_pr [] 4 5 [] [120] (by decide) (by decide) hg) fE (fun _ w2 hb => h2 w2 (hTT w' w2 hw hb))
    rw [exC_fo fE h1] at this
    exact this
  have f4 : ∀ (w' : World) (g : Nat), w'.heap[g]? = some (.cells #[str s20, str sab] 9) → Calls Tryz.prog 10 #[.agg #[.slice (some ⟨g, 0, none⟩) 2 2, B 0, str exC, Z 9], B 5] w' fun r w'' => r = .returned (Z 1) ∧ Below w'.heap.size w' w'' := fun w' g hg => mover_ok (f := fxE exC) (two_pa hg) 5 (by decide)
  refine inQ (J := Below w.heap.size w) (F := (· < w.heap.size)) Tryz.func9 (Below.refl _ _) fun a I => ?_
  refine goQ [] (zd w) I fun β1 a1 w1 I1 hb1 => ?_
  refine mksQ (t := 53) (x := Sum.inl (Z 20)) (y := Sum.inl (Z 20)) I1 (mk_b20 w1) ?_
  have I2 := I1.alloc (zd w) (.cells (bc s20).toArray 5) (.slice (some ⟨w1.heap.size, 0, none⟩) 20 20)
  refine cnvQ I2 (conv_new w1 s20 (by decide)) ?_
  have I3 := I2.same (str s20)
  generalize w1.alloc (.cells (bc s20).toArray 5) = w3 at *
  generalize w1.heap.size = g0 at *
  refine bslQ (ss := [(0, Sum.inl (str s20)), (1, Sum.inl (str sab))]) I3 (bs22 s20 sab w3) ?_
  have I4 := I3.lay (zd w) (.cells #[str s20, str sab] 9) (.slice (some ⟨w3.heap.size, 0, none⟩) 2 2)
  have R4 := (zd w).lay w3.heap.size (.cells #[str s20, str sab] 9)
  generalize w3.alloc (.cells #[str s20, str sab] 9) = w4 at *
  generalize w3.heap.size = g at *
  have hTt : ∀ w', (Below w.heap.size w w' ∧ w'.heap[g]? = some (.cells #[str s20, str sab] 9)) → TT w' := fun w' h => hTT w w' ht h.1
  refine goT (T := fun w' => Below w.heap.size w w' ∧ w'.heap[g]? = some (.cells #[str s20, str sab] 9)) [dO 25 [0, 3, 2] (bd25e g exC), dO 28 [0] (bd28a 4), dO 28 [0, 2] (bd28b 5 [120]), dO 28 [0] (bd28a 6), cA Tryz.func16 (fun w' h => f1 w' g (hTt w' h) h.2), bO .eql 33 (run_eqlE (x := 0) (y := 0) (q := true) rfl), cA Tryz.func16 (fun w' h => f2 w' g (hTt w' h) h.2), bO .eql 33 (run_eqlE (x := 11) (y := 11) (q := true) rfl), cA Tryz.func16 (fun w' h => f3 w' g (hTt w' h) h.2), bO .eql 33 (run_eqlE (x := 12) (y := 12) (q := true) rfl), cA Tryz.func10 (fun w' h => f4 w' g h.2), bO .eql 3 (y5 (x := 1) (y := 1) (b := true) rfl)] R4 (fun _ h => h) I4 fun β5 a5 w5 I5 hb5 => ?_
  exact zm (v := .bool true) I5 ⟨rfl, I5.hJ.1⟩
end Go.Proofs.YthkpgfbjdabflaaGreatDoor
