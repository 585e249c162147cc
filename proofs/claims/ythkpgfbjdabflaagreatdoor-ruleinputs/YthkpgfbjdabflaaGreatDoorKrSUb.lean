/- Laid one behind the other: SUb, SUd, SUf, SUh, SUi. -/
import Derived.Test.YthkpgfbjdabflaaGreatDoorKrGm
import Derived.Test.YthkpgfbjdabflaaGreatDoorKrUa
import Derived.Test.YthkpgfbjdabflaaGreatDoorKrKa
import Derived.Test.YthkpgfbjdabflaaGreatDoorKrKb
import Derived.Test.YthkpgfbjdabflaaGreatDoorKrKg
import Derived.Test.YthkpgfbjdabflaaGreatDoorKrNa
import Derived.Test.YthkpgfbjdabflaaGreatDoorKrNv
import Derived.Test.YthkpgfbjdabflaaGreatDoorKrNum
import Derived.Test.YthkpgfbjdabflaaGreatDoorKrEq
import Derived.Test.YthkpgfbjdabflaaGreatDoorKrOp
import Derived.Test.YthkpgfbjdabflaaGreatDoorKrSVa
import Derived.Test.YthkpgfbjdabflaaGreatDoorKrSWb
namespace Go.Proofs.YthkpgfbjdabflaaGreatDoor
open Go.RowKit Go.Sort
set_option linter.unusedVariables false
set_option maxRecDepth 100000
theorem bd_U4 (x : Nat) (hx : x < M) (w : World) : (Instr.build 45 (([0, 1, 2, 3] : List Nat).zip [B x, B 0, B 0, B 0]).toArray).run Tryz.prog w = .ok (U x) w := by
  have h : (Instr.build 45 (([0, 1, 2, 3] : List Nat).zip [B x, B 0, B 0, B 0]).toArray).run Tryz.prog w = .ok (.agg #[B x, B 0, B 0, B 0]) w := by kernel_rfl
  have h1 := bd_U x hx w
  have h2 : (Instr.build 45 (([0] : List Nat).zip [B x]).toArray).run Tryz.prog w = .ok (.agg #[B x, B 0, B 0, B 0]) w := by kernel_rfl
  rw [h, ← h2, h1]
theorem rword_any (n : Nat) (hn : n < 1000000000000) (w : World) : Calls Tryz.prog 59 #[Z n] w fun e w' => e = .returned (str (wb n)) ∧ Below w.heap.size w w' := by
  have hM : n < M := by unfold M; omega
  refine inQ (J := Below w.heap.size w) (F := (· < w.heap.size)) Tryz.func59 (Below.refl _ _) fun a I => ?_
  refine goQ [vO 3 23 (p := Z n) (v := B n) (cnvB n hn), dO 45 [0, 1, 2, 3] (bd_U4 n hM), kC Tryz.func22 (rbytes_str n)] (nonR w) I fun β a w1 I hb => ?_
  exact outQ (v := str (wb n)) I ⟨rfl, I.hJ⟩
theorem made_zeros (n : Nat) : (madeCells (Value.int .u8 0).cells (n * 1)).toList = bc (List.replicate n 0) := by
  unfold madeCells
  simp only [Array.toList_map, Array.toList_range, Nat.mul_one]
  apply List.ext_getElem
  · simp
  · intro i h1 h2
    simp [Value.cells, Nat.mod_one]
section
variable {P : Program} {ops : Array Oper} {Q : Exit → Act → World → Prop} {K : Act → World → Prop} {o : Oper} {a : Act} {w : World}
theorem makeG {t : TypeId} {l k : Operand} {v : Value} {w' : World} (hop : o.op = .makeSlice t l k) (hg : o.guard = none) (h : (Instr.makeSlice t (a.eval l) (a.eval k)).run P w = .ok v w') (hK : K (a.put o.dst v) w') : wpG ops o P a w K Q := by
  refine wpG_plain hg (wp_of_run (v := v) (w' := w') ?_ hK)
  unfold execOp
  simp only [hop, Sem.run_bind, h, Result.andThen_ok, Sem.run_pure]
end
theorem tail_txt (u : Nat) (x : List UInt8) (hx : x.length < 500000000000) (lv : Value) (hlv : ∃ ad m cap, lv = .slice ad m cap) (w : World) : Calls Tryz.prog 60 #[.agg (tx (1, u, ⟨x.toArray⟩, lv)).toArray] w fun e w' => e = .returned (str (txt ⟨x.toArray⟩)) ∧ Below w.heap.size w w' := by
  obtain ⟨ad, m, cap, rfl⟩ := hlv
  have hsz := str_size x
  obtain ⟨n, hn⟩ : ∃ n, pad x.length = n := ⟨_, rfl⟩
  have hn32 : n < 32 := by rw [← hn]; unfold pad; omega
  refine inQ (J := Below w.heap.size w) (F := (· < w.heap.size)) Tryz.func60 (Below.refl _ _) fun a I => ?_
  refine goQ [eql0 1 1 true rfl, lO Tryz.underlying9 (b := ⟨x.toArray⟩) (n := x.length) (by rw [hsz]), bO .rem 3 (run_remZ (x := x.length) (y := 32) (z := (x.length % 32 : Nat)) (by decide) (by rw [Int.tmod_eq_emod_of_nonneg (by omega)]; omega)),
    bO .sub 3 (run_subZ (x := 32) (y := (x.length % 32 : Nat)) (z := (32 - x.length % 32 : Nat)) (by rw [wz (by omega) (by omega)]; omega)),
    bO .rem 3 (run_remZ (x := (32 - x.length % 32 : Nat)) (y := 32) (z := n) (by decide) (by rw [Int.tmod_eq_emod_of_nonneg (by omega), ← hn]; unfold pad; omega))] (nonR w) I fun β a w1 I hb => ?_
  have hsz1 : a.tmps.size = 32 := by rw [I.fr]; kernel_rfl
  refine dwS (T := fun _ => True) [(8, none), (9, some (str (List.replicate n 0)))] [lO Tryz.underlying9 (b := ⟨x.toArray⟩) (n := x.length) (by rw [hsz]), kC Tryz.func59 (rword_any x.length (by omega)), bO .add 9 (addS_run (wb x.length) x (by rw [wb_len]; omega)), bO .add 9 (addS_run (wb x.length ++ x) (List.replicate n 0) (by rw [List.length_append, wb_len, List.length_replicate]; omega))]
    (fun i v w' => i = 8 → w'.ownsRow w1.heap.size 5 1 v n (bc (List.replicate n 0))) (fun i v w' w'' h hb hi => owns_grow (F := fun _ => True) (h hi) ⟨hb.os, hb.tape, hb.output, hb.size, fun k hk _ => hb.block k hk⟩ fun _ _ => trivial) (nonR w) (fun _ _ => trivial) I ?_ ?_
  · intro p hp o ho listed vs a' w' hF hrd hbw hV hev
    simp only [List.mem_cons, List.not_mem_nil, or_false] at hp
    rcases hp with rfl | rfl
    · obtain ⟨h1, h2, h3⟩ := opD_get (x := .makeSlice 53 (.tmp 20) (.tmp 20)) (d := some 21) ho (by kernel_rfl)
      have e20 : a'.eval (.tmp 20) = Z n := hev (.tmp 20) (Sum.inl (Z n)) (by kernel_rfl)
      obtain ⟨i, hi, hz, hi1, hi2⟩ := hI5
      obtain ⟨w2, hr2, ho2, hg2⟩ := run_make_full (P := Tryz.prog) w' w1.heap.size 53 5 i _ 1 Tryz.underlying53 hi hz hi1 .i64 .i64 n (by rw [hi2]; omega) (by simp only [maxLen]; omega) hbw.size
      rw [made_zeros] at ho2
      refine makeG h1 h3 (by rw [e20]; exact hr2) ⟨_, rfl, fun u hu => (by cases hu), fun _ => ho2, ⟨hg2.os, hg2.tape, hg2.output, hg2.size, fun k hk => hg2.block k hk (by simp)⟩⟩
    · obtain ⟨h1, h2, h3⟩ := opD_get (x := .convert 53 9 (.tmp 21)) (d := some 22) ho (by kernel_rfl)
      have hl8 := waits_done (ops := opsD _) (i := 9) (j := 8) (by kernel_rfl) hrd
      have e21 : a'.eval (.tmp 21) = vs 8 := hF.new (i := 8) (by kernel_rfl) (by omega) hl8
      have ho8 := hV (8, none) (by simp) hl8 rfl
      have hcv := text_own (l := List.replicate n 0) (by rw [List.length_replicate]; exact ho8)
      refine convG h1 h3 (by rw [e21]; exact hcv) ⟨_, rfl, fun u hu => (by cases hu; rfl), fun h => (by cases h), Below.refl _ _⟩
  · intro vs a2 w2 hV I
    refine goQ [] (nonR w) I fun β3 a w3 I hb3 => ?_
    refine outQ (v := str (wb x.length ++ x ++ List.replicate n 0)) I ⟨?_, I.hJ⟩
    unfold txt
    rw [str_size, ← hn]
theorem tail_lst {α : Type} {E : α → List UInt8} {W0 : World} {L : Value → α → Prop} (hsub : ∀ (lv : Value) (x : α) (w : World), L lv x → (E x).length + 1000 ≤ 100000000000 → Below W0.heap.size W0 w → Calls Tryz.prog 42 #[lv] w fun e w' => e = .returned (str (E x)) ∧ Below w.heap.size w w')
    (u : Nat) (s : ByteArray) {ad : Option Addr} {n cap : Nat} {x : α} (hL : L (.slice ad n cap) x) (hn : n < 500000000000) (hE : (E x).length + 1000 ≤ 100000000000) (w : World) (hb0 : Below W0.heap.size W0 w) : Calls Tryz.prog 60 #[.agg (tx (2, u, s, .slice ad n cap)).toArray] w fun e w' => e = .returned (str (wb n ++ E x)) ∧ Below w.heap.size w w' := by
  have hs : ∀ w', Below w.heap.size w w' → Calls Tryz.prog 42 #[.slice ad n cap] w' fun e w'' => e = .returned (str (E x)) ∧ Below w'.heap.size w' w'' := fun w' hb => hsub _ x w' hL hE (hb0.trans (hb.mono hb0.size))
  refine inQ (J := Below w.heap.size w) (F := (· < w.heap.size)) Tryz.func60 (Below.refl _ _) fun a I => ?_
  refine goQ [eql0 2 1 false rfl] (nonR w) I fun β a w1 I hb => ?_
  refine dwT (T := Below w.heap.size w) 9 [lS Tryz.underlying70 (ad := ad) (n := n) (cap := cap) rfl, kC Tryz.func59 (rword_any n (by omega)), cA Tryz.func42 hs, bO .add 9 (addS_run (wb n) (E x) (by rw [wb_len]; omega))] (nonR w) (fun _ h => h) PanOk.post I fun a w2 I => ?_
  refine goQ [] (nonR w) I fun β3 a w3 I hb3 => ?_
  exact outQ (v := str (wb n ++ E x)) I ⟨rfl, I.hJ⟩
abbrev reK : List Nat := [0, 3, 4, 5]
abbrev reV (lv : Value) (hd tl : List UInt8) (i : Nat) : Vs := frm 52 [(0, Sum.inl lv), (3, Sum.inl (str hd)), (4, Sum.inl (str tl)), (5, Sum.inl (Z i))]
theorem wb_zero : wb 0 = List.replicate 32 0 := by kernel_rfl
theorem renc_gen {α : Type} {E : α → List UInt8} {cnt : α → Nat} {W0 : World} {L : Value → α → Prop} (hc : ∀ lv x, L lv x → (∃ ad cap, lv = .slice ad (cnt x) cap) ∧ cnt x ≤ (E x).length)
    (hsub : ∀ (lv : Value) (x : α) (w : World), L lv x → (E x).length + 1000 ≤ 100000000000 → Below W0.heap.size W0 w → Calls Tryz.prog 42 #[lv] w fun e w' => e = .returned (str (E x)) ∧ Below w.heap.size w w')
    {va : Value} {l : List (Int × Nat × ByteArray × α)} (hl : LAs W0 L va l) (hs : ((foldE E cnt (32 * l.length) l).1 ++ (foldE E cnt (32 * l.length) l).2).length + 1000 ≤ 100000000000) (wS : World) (hbS : Below W0.heap.size W0 wS) :
    Calls Tryz.prog 42 #[va] wS fun e w' => e = .returned (str ((foldE E cnt (32 * l.length) l).1 ++ (foldE E cnt (32 * l.length) l).2)) ∧ Below wS.heap.size wS w' := by
  obtain ⟨ad, cap, rfl, hmem⟩ := hl
  obtain ⟨H, hH⟩ : ∃ H, 32 * l.length = H := ⟨_, rfl⟩
  rw [hH] at hs ⊢
  rw [List.length_append] at hs
  have hlen1 : (foldE E cnt H l).1.length = 32 * l.length := by have := (foldE_len (E := E) (cnt := cnt) (H := H) l ([], [])).1; simpa [foldE] using this
  have hle2 : ∀ i, (foldE E cnt H (l.take i)).2.length ≤ (foldE E cnt H l).2.length := fun i => foldE_le l i
  have hle1 : ∀ i, i ≤ l.length → (foldE E cnt H (l.take i)).1.length = 32 * i := fun i hi => by
    have := (foldE_len (E := E) (cnt := cnt) (H := H) (l.take i) ([], [])).1
    rw [List.length_take, Nat.min_eq_left hi] at this
    simpa [foldE] using this
  refine inQ (J := Below wS.heap.size wS) (F := (· < wS.heap.size)) Tryz.func42 (Below.refl _ _) fun a I => ?_
  refine goQ [] (nonR wS) I fun β a w1 I hb => ?_
  let St : Nat → Act → World → Prop := fun k a w' => ∃ (i : Nat) (β : Nat → Nat) (u : Nat → Value), k = l.length - i ∧ i ≤ l.length ∧
    SI (Below wS.heap.size wS) (· < wS.heap.size) [] β (cfC (bodyL Tryz.f42) (fillF (scrF 52 reK) u 0 (reV (.slice ad l.length cap) (foldE E cnt H (l.take i)).1 (foldE E cnt H (l.take i)).2 i)) [] 0) a w'
  refine lpM (bodyL Tryz.f42) St l.length ?_ ?_
  · obtain ⟨u, Iu⟩ := I.scr (bodyL Tryz.f42) (scrF 52 reK) (reV (.slice ad l.length cap) [] [] 0) [] 0
    exact ⟨0, β, u, by omega, Nat.zero_le _, Iu⟩
  rintro k a3 w3 ⟨i, β3, u, rfl, hi, I⟩
  obtain ⟨hd, hhd⟩ : ∃ hd, (foldE E cnt H (l.take i)).1 = hd := ⟨_, rfl⟩
  obtain ⟨tl, htl⟩ : ∃ tl, (foldE E cnt H (l.take i)).2 = tl := ⟨_, rfl⟩
  have hhl := hle1 i hi
  have htl2 := hle2 i
  rw [hhd] at hhl
  rw [htl] at htl2
  rw [hhd, htl] at I
  refine wp_cfC (tm := fillF (scrF 52 reK) u 0 (reV (.slice ad l.length cap) hd tl i)) (rows := []) (nx := 0) ?_
  rcases Nat.lt_or_ge i l.length with hil | hil
  · obtain ⟨⟨k1, n1, t1, s1⟩, h1⟩ : ∃ t, l[i]? = some t := ⟨_, List.getElem?_eq_getElem hil⟩
    obtain ⟨ga, offa, lva, rfl, hca, hLa⟩ := hmem i _ h1
    simp only [] at hca hLa
    obtain ⟨⟨adx, capx, rfl⟩, hcE⟩ := hc _ _ hLa
    have hfold := foldE_take (E := E) (cnt := cnt) (H := H) l i h1
    have hacc : foldE E cnt H (l.take i) = (hd, tl) := by rw [← hhd, ← htl]
    rw [hacc] at hfold
    have hfl1 := hle1 (i + 1) hil
    have hfl2 := hle2 (i + 1)
    have hcb : ∀ w, Below wS.heap.size wS w → CellsAt w ga (offa + i * 7) (cells7 k1 n1 t1 (.slice adx (cnt s1) capx)) := fun w hb => hca.keep ((hbS.trans (hb.mono hbS.size)).block ga hca.lt)
    have hka : ∀ w, Below wS.heap.size wS w → (loadVar 3 ⟨ga, offa + i * 7 + 0, none⟩).run Tryz.prog w = .ok (Z k1) w := fun w hb => load1 (hcb w hb) 0 rfl 3 Tryz.underlying3 rfl
    have hna : ∀ w, Below wS.heap.size wS w → (loadVar 45 ⟨ga, offa + i * 7 + 1, none⟩).run Tryz.prog w = .ok (U n1) w := fun w hb => load4 (CellsAt.num (hcb w hb))
    have hta : ∀ w, Below wS.heap.size wS w → (loadVar 83 ⟨ga, offa + i * 7, none⟩).run Tryz.prog w = .ok (.agg (tx (k1, n1, t1, .slice adx (cnt s1) capx)).toArray) w := fun w hb => load7 (hcb w hb)
    have hadd : IntKind.i64.wrap ((i : Int) + 1) = ((i + 1 : Nat) : Int) := by rw [wz (by omega) (by omega)]; omega
    have done : ∀ {hd' tl' : List UInt8} {β : Nat → Nat} {a : Act} {w' : World} {c : Cf}, foldE E cnt H (l.take (i + 1)) = (hd', tl') → SI (Below wS.heap.size wS) (· < wS.heap.size) [] β c a w' → c.dn = some .normal → dropF (scrF 52 reK) 0 c.tm = dropF (scrF 52 reK) 0 (reV (.slice (some ⟨ga, offa, none⟩) l.length cap) hd' tl' (i + 1)) → At Tryz.prog (Exit.then (fun a' w' => ∃ j, j < l.length - i ∧ St j a' w') (QK Tryz.prog (bodyPost Tryz.prog Tryz.f42 (fun e w' => e = .returned (str ((foldE E cnt H l).1 ++ (foldE E cnt H l).2)) ∧ Below wS.heap.size wS w')) (lpK (rn Tryz.prog ([] : List (Fa Tryz.prog fun _ => True)) (cfF Tryz.f42 #[.slice (some ⟨ga, offa, none⟩) l.length cap])).1))) c a w' := by
      intro hd' tl' β a w' c he I hdn hdr
      obtain ⟨u', Iu⟩ := I.scr (bodyL Tryz.f42) (scrF 52 reK) (reV (.slice (some ⟨ga, offa, none⟩) l.length cap) hd' tl' (i + 1)) [] 0 hdr
      exact endL ⟨l.length - (i + 1), by omega, i + 1, β, u', rfl, hil, by rw [he]; exact Iu⟩ hdn
    by_cases hk1 : k1 = 1
    · subst hk1
      have hst : stepE E cnt H (hd, tl) (1, n1, t1, s1) = (hd ++ wb (H + tl.length), tl ++ txt t1) := rfl
      rw [hst] at hfold
      rw [hfold] at hfl1 hfl2
      have hl2 : (tl ++ txt t1).length ≤ (foldE E cnt H l).2.length := hfl2
      rw [List.length_append, txt_len] at hl2
      have htail : ∀ w, Calls Tryz.prog 60 #[.agg (tx (1, n1, t1, .slice adx (cnt s1) capx)).toArray] w fun e w' => e = .returned (str (txt t1)) ∧ Below w.heap.size w w' := fun w => tail_txt n1 t1.data.toList (by have : t1.data.toList.length = t1.size := Array.length_toList; omega) _ ⟨_, _, _, rfl⟩ w
      refine goT (T := Below wS.heap.size wS) [lS Tryz.underlying70 (ad := some ⟨ga, offa, none⟩) (n := l.length) (cap := cap) rfl, bO .lss 3 (run_lssZ (x := i) (y := l.length) (b := true) (by simp; omega)), iA 70 Tryz.underlying70 (sz := 7) (by kernel_rfl) (g := ga) (off := offa) (n := l.length) (cap := cap) hil, ldA 3 hka, eql0 1 1 true rfl,
        lS Tryz.underlying70 (ad := some ⟨ga, offa, none⟩) (n := l.length) (cap := cap) rfl, bO .mul 3 (run_mulZ (x := 32) (y := l.length) (z := H) (by rw [wz (by omega) (by omega)]; omega)), lO Tryz.underlying9 (b := ⟨tl.toArray⟩) (n := tl.length) (by rw [str_size]), bO .add 3 (run_addZ (x := H) (y := tl.length) (z := (H + tl.length : Nat)) (by rw [wz (by omega) (by omega)]; omega)), kC Tryz.func59 (rword_any (H + tl.length) (by omega)), bO .add 9 (addS_run hd (wb (H + tl.length)) (by rw [wb_len]; omega)),
        iA 70 Tryz.underlying70 (sz := 7) (by kernel_rfl) (g := ga) (off := offa) (n := l.length) (cap := cap) hil, ldA 83 hta, kC Tryz.func60 htail, bO .add 9 (addS_run tl (txt t1) (by rw [txt_len]; omega)), bO .add 3 (run_addZ (x := i) (y := 1) hadd)] (nonR wS) (fun _ h => h) I fun β4 a4 w4 I hb4 => ?_
      exact done hfold I (by kernel_rfl) (by kernel_rfl)
    by_cases hk2 : k1 = 2
    · subst hk2
      have hst : stepE E cnt H (hd, tl) (2, n1, t1, s1) = (hd ++ wb (H + tl.length), tl ++ (wb (cnt s1) ++ E s1)) := rfl
      rw [hst] at hfold
      rw [hfold] at hfl1 hfl2
      have hl2 : (tl ++ (wb (cnt s1) ++ E s1)).length ≤ (foldE E cnt H l).2.length := hfl2
      rw [List.length_append, List.length_append, wb_len] at hl2
      have htail : ∀ w, Below wS.heap.size wS w → Calls Tryz.prog 60 #[.agg (tx (2, n1, t1, .slice adx (cnt s1) capx)).toArray] w fun e w' => e = .returned (str (wb (cnt s1) ++ E s1)) ∧ Below w.heap.size w w' := fun w hb => tail_lst hsub n1 t1 hLa (by omega) (by omega) w (hbS.trans (hb.mono hbS.size))
      refine goT (T := Below wS.heap.size wS) [lS Tryz.underlying70 (ad := some ⟨ga, offa, none⟩) (n := l.length) (cap := cap) rfl, bO .lss 3 (run_lssZ (x := i) (y := l.length) (b := true) (by simp; omega)), iA 70 Tryz.underlying70 (sz := 7) (by kernel_rfl) (g := ga) (off := offa) (n := l.length) (cap := cap) hil, ldA 3 hka, eql0 2 1 false rfl, eql0 2 2 true rfl,
        lS Tryz.underlying70 (ad := some ⟨ga, offa, none⟩) (n := l.length) (cap := cap) rfl, bO .mul 3 (run_mulZ (x := 32) (y := l.length) (z := H) (by rw [wz (by omega) (by omega)]; omega)), lO Tryz.underlying9 (b := ⟨tl.toArray⟩) (n := tl.length) (by rw [str_size]), bO .add 3 (run_addZ (x := H) (y := tl.length) (z := (H + tl.length : Nat)) (by rw [wz (by omega) (by omega)]; omega)), kC Tryz.func59 (rword_any (H + tl.length) (by omega)), bO .add 9 (addS_run hd (wb (H + tl.length)) (by rw [wb_len]; omega)),
        iA 70 Tryz.underlying70 (sz := 7) (by kernel_rfl) (g := ga) (off := offa) (n := l.length) (cap := cap) hil, ldA 83 hta, cA Tryz.func60 htail, bO .add 9 (addS_run tl (wb (cnt s1) ++ E s1) (by rw [List.length_append, wb_len]; omega)), bO .add 3 (run_addZ (x := i) (y := 1) hadd)] (nonR wS) (fun _ h => h) I fun β4 a4 w4 I hb4 => ?_
      exact done hfold I (by kernel_rfl) (by kernel_rfl)
    by_cases hk0 : k1 = 0
    · subst hk0
      have hst : stepE E cnt H (hd, tl) (0, n1, t1, s1) = (hd ++ wb n1, tl) := rfl
      rw [hst] at hfold
      refine goT (T := Below wS.heap.size wS) [lS Tryz.underlying70 (ad := some ⟨ga, offa, none⟩) (n := l.length) (cap := cap) rfl, bO .lss 3 (run_lssZ (x := i) (y := l.length) (b := true) (by simp; omega)), iA 70 Tryz.underlying70 (sz := 7) (by kernel_rfl) (g := ga) (off := offa) (n := l.length) (cap := cap) hil, ldA 3 hka, eql0 0 1 false rfl, eql0 0 2 false rfl, eql0 0 0 true rfl,
        iA 70 Tryz.underlying70 (sz := 7) (by kernel_rfl) (g := ga) (off := offa) (n := l.length) (cap := cap) hil, ldA 45 hna, kC Tryz.func22 (rbytes_str n1), bO .add 9 (addS_run hd (wb n1) (by rw [wb_len]; omega)), bO .add 3 (run_addZ (x := i) (y := 1) hadd)] (nonR wS) (fun _ h => h) I fun β4 a4 w4 I hb4 => ?_
      exact done hfold I (by kernel_rfl) (by kernel_rfl)
    · have hst : stepE E cnt H (hd, tl) (k1, n1, t1, s1) = (hd ++ wb 0, tl) := by
        unfold stepE
        rw [if_neg hk0, if_neg hk1, if_neg hk2, wb_zero]
      rw [hst] at hfold
      refine goT (T := Below wS.heap.size wS) [lS Tryz.underlying70 (ad := some ⟨ga, offa, none⟩) (n := l.length) (cap := cap) rfl, bO .lss 3 (run_lssZ (x := i) (y := l.length) (b := true) (by simp; omega)), iA 70 Tryz.underlying70 (sz := 7) (by kernel_rfl) (g := ga) (off := offa) (n := l.length) (cap := cap) hil, ldA 3 hka, eql0 k1 1 false (decide_eq_false hk1), eql0 k1 2 false (decide_eq_false hk2), eql0 k1 0 false (decide_eq_false hk0),
        kC Tryz.func59 (rword_any 0 (by omega)), bO .add 9 (addS_run hd (wb 0) (by rw [wb_len]; omega)), bO .add 3 (run_addZ (x := i) (y := 1) hadd)] (nonR wS) (fun _ h => h) I fun β4 a4 w4 I hb4 => ?_
      exact done hfold I (by kernel_rfl) (by kernel_rfl)
  · obtain rfl : i = l.length := by omega
    rw [List.take_length] at hhd htl
    refine goQ [lS Tryz.underlying70 (ad := ad) (n := l.length) (cap := cap) rfl, bO .lss 3 (run_lssZ (x := l.length) (y := l.length) (b := false) (by simp))] (nonR wS) I fun β4 a4 w4 I hb4 => ?_
    refine endE 0 ?_
    refine goQ [bO .add 9 (addS_run hd tl (by omega))] (nonR wS) (I.exit _) fun β5 a5 w5 I hb5 => ?_
    exact outQ (v := str (hd ++ tl)) I ⟨by rw [hhd, htl], I.hJ⟩
theorem renc_any : ∀ (n : Nat) {W0 : World} {v : Value} {l : TL n}, LA W0 n v l → (enc n l).length + 1000 ≤ 100000000000 → ∀ w, Below W0.heap.size W0 w → Calls Tryz.prog 42 #[v] w fun e w' => e = .returned (str (enc n l)) ∧ Below w.heap.size w w'
  | 0, W0, v, l, hl, hs, w, hb => by
    obtain ⟨ad, cap, rfl⟩ := hl
    exact renc_gen (α := Unit) (E := fun _ => []) (cnt := fun _ => 0) (W0 := W0) (L := fun _ _ => False) (fun _ _ h => h.elim) (fun _ _ _ h => h.elim) (l := []) ⟨ad, cap, rfl, fun i t h => (by simp at h)⟩ (by decide) w hb
  | n + 1, W0, v, l, hl, hs, w, hb => by
    refine renc_gen (α := TL n) (E := enc n) (cnt := cntL n) (L := LA W0 n) (fun lv x h => ⟨?_, by have := enc_cnt n x; omega⟩) (fun lv x w h h2 hb => renc_any n h h2 w hb) (l := l) hl hs w hb
    cases n with
    | zero => exact h
    | succ n => obtain ⟨ad, cap, hv, _⟩ := h; exact ⟨ad, cap, hv⟩
end Go.Proofs.YthkpgfbjdabflaaGreatDoor
namespace Go.Proofs.YthkpgfbjdabflaaGreatDoor
open Go.RowKit Go.Sort
set_option linter.unusedVariables false
set_option maxRecDepth 100000
theorem LA.cnt {w : World} : ∀ {n : Nat} {v : Value} {l : TL n}, LA w n v l → ∃ ad cap, v = .slice ad (cntL n l) cap
  | 0, v, l, h => h
  | n + 1, v, l, h => by obtain ⟨ad, cap, hv, _⟩ := h; exact ⟨ad, cap, hv⟩
end Go.Proofs.YthkpgfbjdabflaaGreatDoor
namespace Go.Proofs.YthkpgfbjdabflaaGreatDoor
open Go.RowKit Go.Sort
set_option linter.unusedVariables false
set_option maxRecDepth 100000
def eachM (q : List UInt8) (n : Nat) : List (List UInt8) := if q.head? = some 40 then inr_ q else List.replicate n ((inr_ q).headD [])
/-- One term. -/
def tk1 {α : Type} (nil : α) (sub : List (List UInt8) → List UInt8 → Nat → Option (α × Nat)) (s : List UInt8) (q : List UInt8) (i lf : Nat) : Option ((Int × Nat × ByteArray × α) × Nat) :=
  if 32 * i + 32 ≤ s.length then
    (if q = [110] then some ((0, nm ((s.drop (32 * i)).take 32), ⟨#[]⟩, nil), lf)
    else (rdC s (32 * i) s.length).bind fun p => (rdC s p 16384).bind fun n =>
      if q = [116] then (if n ≤ (s.drop (p + 32)).length then some ((1, 0, ⟨((s.drop (p + 32)).take n).toArray⟩, nil), lf) else none)
      else if 64 < n ∨ (q.head? = some 40 ∧ n ≠ (inr_ q).length) then none
      else (sub (eachM q n) (s.drop (p + 32)) lf).map fun x => ((2, 0, ⟨#[]⟩, x.1), x.2))
  else none
def tkG {α : Type} (nil : α) (sub : List (List UInt8) → List UInt8 → Nat → Option (α × Nat)) (s : List UInt8) : List (List UInt8) → Nat → Nat → Option (List (Int × Nat × ByteArray × α) × Nat)
  | [], _, lf => some ([], lf)
  | q :: ps, i, lf => (tk1 nil sub s q i lf).bind fun x => (tkG nil sub s ps (i + 1) x.2).map fun y => (x.1 :: y.1, y.2)
def tk : (n : Nat) → List (List UInt8) → List UInt8 → Nat → Option (List (s_TT n) × Nat)
  | 0, ps, s, lf => if lf < ps.length then none else tkG (nilT 0) (fun _ _ _ => none) s ps 0 (lf - ps.length)
  | n + 1, ps, s, lf => if lf < ps.length then none else tkG (nilT (n + 1)) (tk n) s ps 0 (lf - ps.length)
end Go.Proofs.YthkpgfbjdabflaaGreatDoor
namespace Go.Proofs.YthkpgfbjdabflaaGreatDoor
open Go.RowKit Go.Sort
set_option linter.unusedVariables false
set_option maxRecDepth 100000
/-- A row of texts in memory, in blocks of K. -/
def SR (K : Nat → Prop) (w : World) (v : Value) (ps : List (List UInt8)) : Prop :=
  ∃ ad cap, v = .slice ad ps.length cap ∧ ∀ (i : Nat) (q : List UInt8), ps[i]? = some q → ∃ g off, ad = some ⟨g, off, none⟩ ∧ K g ∧ CellsAt w g (off + i * 1) [str q]
theorem SR.keep {K : Nat → Prop} {w w' : World} {v : Value} {ps : List (List UInt8)} (h : ∀ k, K k → w'.heap[k]? = w.heap[k]?) (H : SR K w v ps) : SR K w' v ps := by
  obtain ⟨ad, cap, hv, hm⟩ := H
  refine ⟨ad, cap, hv, fun i q hi => ?_⟩
  obtain ⟨g, off, h1, h2, h3⟩ := hm i q hi
  exact ⟨g, off, h1, h2, h3.keep (h g h2)⟩
theorem SR.own {w : World} {b : Nat} {v : Value} {ps : List (List UInt8)} (h : w.ownsRow b 9 1 v ps.length (ps.map str)) : SR (fun k => v.ownBlock = some k) w v ps := by
  obtain ⟨ad, cap, rfl⟩ := owns_slice h
  refine ⟨ad, cap, rfl, fun i q hi => ?_⟩
  have hil : i < ps.length := (List.getElem?_eq_some_iff.1 hi).1
  rcases h.2 with ⟨hv, hn⟩ | ⟨g, cap', cur, hv, hb, hg, hnc, hcm, hcs, hct⟩
  · omega
  · cases hv
    refine ⟨g, 0, rfl, rfl, fun j c hc => ?_⟩
    have hj : j = 0 := by
      have := (List.getElem?_eq_some_iff.1 hc).1
      simpa using this
    subst hj
    simp only [List.getElem?_cons_zero, Option.some.injEq] at hc
    subst hc
    have := h.cells (g := g) rfl i (str q) (by rw [List.getElem?_map, hi]; rfl)
    rw [add_off] at this
    rw [Nat.mul_one, Nat.add_zero]
    exact this
structure SJ (K : Nat → Prop) (v : Value) (ps : List (List UInt8)) (w : World) : Prop where
  kb : ∀ k, K k → k < w.heap.size
  sr : SR K w v ps
theorem SJ.rs (K : Nat → Prop) (v : Value) (ps : List (List UInt8)) : Rsrc (SJ K v ps) K :=
  ⟨fun w w' h gr => ⟨fun k hk => Nat.lt_of_lt_of_le (h.kb k hk) gr.size, h.sr.keep fun k hk => gr.block k (h.kb k hk) hk⟩, fun w k h hk => h.kb k hk⟩
theorem SI.also {J J' : World → Prop} {F F' : Nat → Prop} {ds : List Deferred} {β : Nat → Nat} {c : Cf} {a : Act} {w : World} (I : SI J F ds β c a w) (hJ : J' w) (hF : ∀ p ∈ c.rows, ¬ F' (β p.1)) : SI (fun w' => J w' ∧ J' w') (fun k => F k ∨ F' k) ds β c a w :=
  ⟨I.fr, I.df, ⟨I.hJ, hJ⟩, I.row, fun p hp h => h.elim (I.dis p hp) (hF p hp), I.lt, I.inj, I.ids⟩
theorem SI.less {J J' : World → Prop} {F F' : Nat → Prop} {ds : List Deferred} {β : Nat → Nat} {c : Cf} {a : Act} {w : World} (I : SI J F ds β c a w) (hJ : J' w) (hF : ∀ k, F' k → F k) : SI J' F' ds β c a w :=
  ⟨I.fr, I.df, hJ, I.row, fun p hp h => I.dis p hp (hF _ h), I.lt, I.inj, I.ids⟩
end Go.Proofs.YthkpgfbjdabflaaGreatDoor
namespace Go.Proofs.YthkpgfbjdabflaaGreatDoor
open Go.RowKit Go.Sort
set_option linter.unusedVariables false
set_option maxRecDepth 100000
def bodyL2 (fn : Func) : Code := (loopOf (bodyL fn)).getD .skip
theorem bd_lst2 (ad : Option Addr) (n cap : Nat) (w : World) : (Instr.build 83 (([0, 3] : List Nat).zip [Z 2, .slice ad n cap]).toArray).run Tryz.prog w = .ok (.agg (tx (2, 0, ⟨#[]⟩, .slice ad n cap)).toArray) w := by kernel_rfl
def SRn (lo : Nat) (inn : List (List UInt8)) (v : Value) (w : World) : Prop := ∃ Ki : Nat → Prop, (∀ k, Ki k → lo ≤ k ∧ k < w.heap.size) ∧ SR Ki w v inn
theorem SRn.below {lo : Nat} {inn : List (List UInt8)} {v : Value} {w w' : World} (h : SRn lo inn v w) (hb : Below w.heap.size w w') : SRn lo inn v w' := by
  obtain ⟨Ki, h1, h2⟩ := h
  exact ⟨Ki, fun k hk => ⟨(h1 k hk).1, Nat.lt_of_lt_of_le (h1 k hk).2 hb.size⟩, h2.keep fun k hk => hb.block k (h1 k hk).2⟩
section
variable {P : Program} {ops : Array Oper} {Q : Exit → Act → World → Prop} {o : Oper} {a : Act} {w : World}
end
structure OJ (b e sz : Nat) (v : Value) (n : Nat) (xs : List Value) (w : World) : Prop where
  own : w.ownsRow b e sz v n xs
  le : b ≤ w.heap.size
theorem OJ.rs (b e sz : Nat) (v : Value) (n : Nat) (xs : List Value) : Rsrc (OJ b e sz v n xs) (fun k => v.ownBlock = some k) :=
  ⟨fun w w' h g => ⟨owns_grow h.own g fun k hk => hk, Nat.le_trans h.le g.size⟩, fun w k h hk => (h.own.lt k hk).2⟩
end Go.Proofs.YthkpgfbjdabflaaGreatDoor
