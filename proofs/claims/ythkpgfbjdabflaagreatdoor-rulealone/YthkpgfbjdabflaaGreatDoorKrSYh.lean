/- Laid one behind the other: SYh, SYi, SYj, SYk, SYl. -/
import Derived.Test.YthkpgfbjdabflaaGreatDoorKrGm
import Derived.Test.YthkpgfbjdabflaaGreatDoorKrUa
import Derived.Test.YthkpgfbjdabflaaGreatDoorKrKa
import Derived.Test.YthkpgfbjdabflaaGreatDoorKrKb
import Derived.Test.YthkpgfbjdabflaaGreatDoorKrKg
import Derived.Test.YthkpgfbjdabflaaGreatDoorKrNa
import Derived.Test.YthkpgfbjdabflaaGreatDoorKrNv
import Derived.Test.YthkpgfbjdabflaaGreatDoorKrNum
import Derived.Test.YthkpgfbjdabflaaGreatDoorKrEq
import Derived.Test.YthkpgfbjdabflaaGreatDoorKrOp
import Derived.Test.YthkpgfbjdabflaaGreatDoorKrSTv
import Derived.Test.YthkpgfbjdabflaaGreatDoorKrSTh
import Derived.Test.YthkpgfbjdabflaaGreatDoorKrSWb
import Derived.Test.YthkpgfbjdabflaaGreatDoorKrSVa
import Derived.Test.YthkpgfbjdabflaaGreatDoorKrSUb
import Derived.Test.YthkpgfbjdabflaaGreatDoorKrSTa
import Derived.Test.YthkpgfbjdabflaaGreatDoorKrSTe
import Derived.Test.YthkpgfbjdabflaaGreatDoorKrHk
namespace Go.Proofs.YthkpgfbjdabflaaGreatDoor
open Go.RowKit Go.Sort
set_option linter.unusedVariables false
set_option maxRecDepth 100000
theorem s_U_small {n : Nat} (h : n < M) : U n = .agg #[B n, B 0, B 0, B 0] := by
  have e0 : l0 n = n := Nat.mod_eq_of_lt h
  unfold U
  rw [e0, show l1 n = 0 by unfold l1; rw [Nat.div_eq_of_lt h]; rfl, show l2 n = 0 by unfold l2; rw [Nat.div_eq_of_lt (Nat.lt_of_lt_of_le h (by decide))]; rfl, show l3 n = 0 by unfold l3; rw [Nat.div_eq_of_lt (Nat.lt_of_lt_of_le h (by decide))]; rfl]
theorem bd_Us {n : Nat} (h : n < M) (w : World) : (Instr.build 45 (([0, 1, 2, 3] : List Nat).zip [B n, B 0, B 0, B 0]).toArray).run Tryz.prog w = .ok (U n) w := by
  rw [s_U_small h]
  kernel_rfl
theorem bd_n1 (u : Nat) (w : World) : (Instr.build 83 (([1] : List Nat).zip [U u]).toArray).run Tryz.prog w = .ok (nTm u) w := by kernel_rfl
theorem rnumT (n : Nat) (hn : n < M) (w : World) : Calls Tryz.prog 61 #[B n] w fun e w' => e = .returned (nTm n) ∧ Below w.heap.size w w' := by
  refine inQ (J := Below w.heap.size w) (F := (· < w.heap.size)) Tryz.func61 (Below.refl _ _) fun a I => ?_
  refine goQ [dO 45 [0, 1, 2, 3] (bd_Us hn), dO 83 [1] (bd_n1 n)] (nonR w) I fun β a w1 I hb => ?_
  exact outQ (v := nTm n) I ⟨rfl, I.hJ⟩
theorem rtextT (s : ByteArray) (w : World) : Calls Tryz.prog 62 #[.string s] w fun e w' => e = .returned (tTm s) ∧ Below w.heap.size w w' := by
  refine inQ (J := Below w.heap.size w) (F := (· < w.heap.size)) Tryz.func62 (Below.refl _ _) fun a I => ?_
  refine goQ [dO 83 [0, 2] (bd_tTm s)] (nonR w) I fun β a w1 I hb => ?_
  exact outQ (v := tTm s) I ⟨rfl, I.hJ⟩
theorem rlistT (ad : Option Addr) (n cap : Nat) (w : World) : Calls Tryz.prog 92 #[.slice ad n cap] w fun e w' => e = .returned (lTm (.slice ad n cap)) ∧ Below w.heap.size w w' := by
  refine inQ (J := Below w.heap.size w) (F := (· < w.heap.size)) Tryz.func92 (Below.refl _ _) fun a I => ?_
  refine goQ [dO 83 [0, 3] (bd_lst2 ad n cap)] (nonR w) I fun β a w1 I hb => ?_
  exact outQ (v := lTm (.slice ad n cap)) I ⟨rfl, I.hJ⟩
theorem rbytesT (s : ByteArray) (hs : s.size ≤ 32) (w : World) : Calls Tryz.prog 93 #[.string s] w fun e w' => e = .returned (nTm (s_rdB s)) ∧ Below w.heap.size w w' := by
  have hr : ∀ w', Calls Tryz.prog 128 #[.string s] w' fun e w'' => e = .returned (.tuple #[U (s_rdB s), Z 0]) ∧ Below w'.heap.size w' w'' := fun w' => rread_any s hs w'
  generalize s_rdB s = u at hr ⊢
  refine inQ (J := Below w.heap.size w) (F := (· < w.heap.size)) Tryz.func93 (Below.refl _ _) fun a I => ?_
  refine goQ [kC Tryz.func128 hr, dO 83 [1] (bd_n1 u)] (nonR w) I fun β a w1 I hb => ?_
  exact outQ (v := nTm u) I ⟨rfl, I.hJ⟩
end Go.Proofs.YthkpgfbjdabflaaGreatDoor
namespace Go.Proofs.YthkpgfbjdabflaaGreatDoor
open Go.RowKit Go.Sort
set_option linter.unusedVariables false
set_option maxRecDepth 100000
/-- One more is put behind the others, something else being held. -/
theorem app_gen2 {α : Type} {C : Cl α} (hC : Loc C) {t e sz by_ : Nat} {z : Value} (ht : Tryz.prog.underlying t = some (.slice e)) (hinf : ∃ i, Tryz.prog.info? e = some i ∧ i.zero = some z ∧ i.size = sz ∧ i.bytes = by_) (hzs : z.cells.size = sz) (hsz : 0 < sz) (hby : by_ ≤ 1000)
    {w : World} {i cap : Nat} {ad : Option Addr} {X : List (List Value)} {l : List α} {K K1 : Nat → Prop} {x : α} {cs : List Value} {ev : Value} {J2 : World → Prop} {F2 : Nat → Prop} (R2 : Rsrc J2 F2) {ds : List Deferred} {β : Nat → Nat} {c : Cf} {a : Act} {w6 : World} {Q : Exit → Act → World → Prop}
    (hbs : (Instr.buildSlice t 1 #[(0, ev)]).run Tryz.prog w6 = .ok (.slice (some ⟨w6.heap.size, 0, none⟩) 1 1) (w6.alloc (.cells cs.toArray e))) (hcs : cs.length = sz) (hone : ∀ u ∈ cs, u.oneCell' = true)
    (I6 : SI (fun w' => (QJ C w e sz (.slice ad i cap) X l K w' ∧ s_MK C K1 x cs w') ∧ J2 w') (fun k => (QF w (.slice ad i cap) K k ∨ K1 k) ∨ F2 k) ds β c a w6) (hF2 : ∀ k, F2 k → (Value.slice ad i cap).ownBlock ≠ some k) (hXi : X.length = i) (hi : i < 100000000) (hK1 : ∀ k, K1 k → w.heap.size ≤ k ∧ (Value.slice ad i cap).ownBlock ≠ some k)
    (k : ∀ ad8 cap8 a8 w8, (∀ k, F2 k → (Value.slice ad8 (i + 1) cap8).ownBlock ≠ some k) → SI (fun w' => QJ C w e sz (.slice ad8 (i + 1) cap8) (X ++ [cs]) (l ++ [x]) (fun k => K k ∨ K1 k) w' ∧ J2 w') (fun k => QF w (.slice ad8 (i + 1) cap8) (fun k => K k ∨ K1 k) k ∨ F2 k) ds β (nxtQ (nxtQ c (.slice (some ⟨w6.heap.size, 0, none⟩) 1 1)) (.slice ad8 (i + 1) cap8)) a8 w8 → At Tryz.prog Q (nxtQ (nxtQ c (.slice (some ⟨w6.heap.size, 0, none⟩) 1 1)) (.slice ad8 (i + 1) cap8)) a8 w8)
    (hc1 : bsQ c = some (t, 1, [(0, Sum.inl ev)]) := by kernel_rfl)
    (hc2 : bltQ (nxtQ c (.slice (some ⟨w6.heap.size, 0, none⟩) 1 1)) = some (.append, #[t, t], t, [Sum.inl (.slice ad i cap), Sum.inl (.slice (some ⟨w6.heap.size, 0, none⟩) 1 1)]) := by kernel_rfl) : At Tryz.prog Q c a w6 := by
  have hRs := ((QJ.rs hC w e sz (.slice ad i cap) X l K).both (s_MK.rs hC K1 x cs)).both R2
  refine bslQ (ss := [(0, Sum.inl ev)]) I6 hbs ?_ hc1
  have I7 := I6.alloc hRs (.cells cs.toArray e) (.slice (some ⟨w6.heap.size, 0, none⟩) 1 1)
  obtain ⟨inf, hi1, hi2, hi3, hi4⟩ := hinf
  have hown7 := I7.hJ.1.1.ro.own
  rw [hXi] at hown7
  obtain ⟨v', w8, hr8, ho8, hg8⟩ := app_els ht hi1 hi2 hi3 hi4 hzs hsz hby hown7 I7.hJ.1.1.ro.gr.size ⟨w6.heap.size, 0, none⟩ cs (by rw [hcs, Nat.one_mul]) (alloc_cell w6 cs.toArray e) hone (by omega)
  obtain ⟨ad8, cap8, rfl⟩ := owns_slice ho8
  refine appQ (ss := [Sum.inl (.slice ad i cap), Sum.inl (.slice (some ⟨w6.heap.size, 0, none⟩) 1 1)]) I7 hr8 ?_ hc2
  have hXl1 : (X ++ [cs]).length = i + 1 := by simp [hXi]
  have hXf : X.flatten ++ cs = (X ++ [cs]).flatten := by simp
  rw [hXf] at ho8
  have hk7 : ∀ k, (K k ∨ K1 k) → w.heap.size ≤ k ∧ k < w6.heap.size ∧ (Value.slice ad i cap).ownBlock ≠ some k := fun k hk => by
    rcases hk with hk | hk
    · exact ⟨(I6.hJ.1.1.kb k hk).1, (I6.hJ.1.1.kb k hk).2.1, (I6.hJ.1.1.kb k hk).2.2⟩
    · exact ⟨(hK1 k hk).1, I6.hJ.1.2.kb k hk, (hK1 k hk).2⟩
  have hsz7 : (w6.alloc (.cells cs.toArray e)).heap.size = w6.heap.size + 1 := by simp
  have hblk : ∀ k, (K k ∨ K1 k) → w8.heap[k]? = w6.heap[k]? := fun k hk => by
    obtain ⟨h1, h2, h3⟩ := hk7 k hk
    rw [hg8.gr.block k (by omega) fun e => h3 e.symm]
    exact (below_alloc w6 _).block k h2
  have hro8 : RO w w.heap.size e sz (.slice ad8 (i + 1) cap8) (X ++ [cs]).length (X ++ [cs]).flatten w8 := by
    have h7 := I7.hJ.1.1.ro
    rw [hXi] at h7
    rw [hXl1]
    exact h7.grown ho8 hg8
  have hinn8 : ∀ (j : Nat) (y : List Value) (t : α), (X ++ [cs])[j]? = some y → (l ++ [x])[j]? = some t → y.length = sz ∧ C (fun k => K k ∨ K1 k) w8 t y := by
    intro j y t' h1 h2
    have hl := I6.hJ.1.1.len
    rcases Nat.lt_or_ge j X.length with hj | hj
    · rw [List.getElem?_append_left hj] at h1
      rw [List.getElem?_append_left (by omega)] at h2
      obtain ⟨q1, q2⟩ := I6.hJ.1.1.inn j y t' h1 h2
      exact ⟨q1, hC.keep _ _ _ _ _ _ (fun k hk => ⟨.inl hk, hblk k (.inl hk)⟩) q2⟩
    · rw [List.getElem?_append_right hj] at h1
      rw [List.getElem?_append_right (by omega)] at h2
      have hj0 : j - X.length = 0 := by
        have := (List.getElem?_eq_some_iff.1 h1).1
        simpa using this
      rw [hj0] at h1
      rw [show j - l.length = 0 by omega] at h2
      simp only [List.getElem?_cons_zero, Option.some.injEq] at h1 h2
      subst h1 h2
      exact ⟨hcs, hC.keep _ _ _ _ _ _ (fun k hk => ⟨.inr hk, hblk k (.inr hk)⟩) I6.hJ.1.2.c⟩
  have hF8 : ∀ k, F2 k → (Value.slice ad8 (i + 1) cap8).ownBlock ≠ some k := fun k hk e => by
    rcases hg8.nb k e with h4 | h4
    · exact hF2 k hk h4
    · have := R2.lt w6 k I6.hJ.2 hk
      omega
  exact k ad8 cap8 _ w8 hF8 (I7.moved ⟨hg8.gr.os, hg8.gr.tape, hg8.gr.output, hg8.gr.size, fun k hk hn => hg8.gr.block k hk fun e => hn (.inl (.inl (.inr (.inl e.symm))))⟩ ⟨⟨hro8, fun k hk => by
      obtain ⟨h1, h2, h3⟩ := hk7 k hk
      have := hg8.gr.size
      refine ⟨h1, by omega, fun e => ?_⟩
      rcases hg8.nb k e with h4 | h4
      · exact h3 h4
      · omega, by simp [I6.hJ.1.1.len], hinn8⟩, R2.loc _ w8 I7.hJ.2 ⟨hg8.gr.os, hg8.gr.tape, hg8.gr.output, hg8.gr.size, fun k hk hF => hg8.gr.block k hk fun e => hF2 k hF e.symm⟩⟩ (fun k hk h => by
      rcases h with (h | h | h | h) | h
      · exact .inl (.inl (.inl h))
      · rcases hg8.nb k h with h4 | h4
        · exact .inl (.inl (.inr (.inl h4)))
        · omega
      · exact .inl (.inl (.inr (.inr h)))
      · exact .inl (.inr h)
      · exact .inr h) (.slice ad8 (i + 1) cap8))
end Go.Proofs.YthkpgfbjdabflaaGreatDoor
namespace Go.Proofs.YthkpgfbjdabflaaGreatDoor
open Go.RowKit Go.Sort
set_option linter.unusedVariables false
set_option maxRecDepth 100000
abbrev roK : List Nat := [0, 2, 3, 4]
abbrev roV (ev ov : Value) (i : Nat) : Vs := frm 68 [(0, Sum.inl ev), (2, Sum.inr (0, 0)), (3, Sum.inl ov), (4, Sum.inl (Z i))]
abbrev rzK : List Nat := [0, 2, 3, 4, 5, 6]
abbrev rzV (ev ov : Value) (i : Nat) (av : Value) (j : Nat) : Vs := frm 68 [(0, Sum.inl ev), (2, Sum.inr (0, 0)), (3, Sum.inl ov), (4, Sum.inl (Z i)), (5, Sum.inl av), (6, Sum.inl (Z j))]
set_option maxHeartbeats 4000000 in
theorem routcome (n : Nat) {w : World} {ev : Value} {l : List Ex} (h : ExI w ev l) (hp : putX l) : Calls Tryz.prog 63 #[ev] w (OneP (n + 4) (lstT (n + 4) (l.map (fun x => lstT (n + 3) (exTs n x)))) w) := by
  obtain ⟨ad0, cap0, rfl, hm⟩ := h
  obtain ⟨hl, hpx⟩ := hp
  refine inQ (J := QJ (CT (n + 3)) w 83 7 (.slice none 0 0) [] [] noK) (F := QF w (.slice none 0 0) noK) Tryz.func63 (QJ.start _ _ _ _) fun a I => ?_
  refine goQ [] (QJ.rs (CT.loc (n + 3)) _ _ _ _ _ _ _) I fun β a w1 I hb => ?_
  let St : Nat → Act → World → Prop := fun k a w' => ∃ (i : Nat) (β : Nat → Nat) (u : Nat → Value) (ad : Option Addr) (cap : Nat) (X : List (List Value)) (K : Nat → Prop), k = l.length - i ∧ i ≤ l.length ∧ X.length = i ∧
    SI (QJ (CT (n + 3)) w 83 7 (.slice ad i cap) X ((l.take i).map (fun x => lstT (n + 3) (exTs n x))) K) (QF w (.slice ad i cap) K) [] β (cfC (bodyL Tryz.f63) (fillF (scrF 68 roK) u 0 (roV (.slice ad0 l.length cap0) (.slice ad i cap) i)) [(0, zT7)] 1) a w'
  refine lpM (bodyL Tryz.f63) St l.length ?_ ?_
  · obtain ⟨u, Iu⟩ := I.scr (bodyL Tryz.f63) (scrF 68 roK) (roV (.slice ad0 l.length cap0) (.slice none 0 0) 0) [(0, zT7)] 1
    exact ⟨0, β, u, none, 0, [], noK, by omega, Nat.zero_le _, rfl, Iu⟩
  rintro k a3 w3 ⟨i, β3, u, ad, cap, X, K, rfl, hi, hXi, I3⟩
  refine wp_cfC (tm := fillF (scrF 68 roK) u 0 (roV (.slice ad0 l.length cap0) (.slice ad i cap) i)) (rows := [(0, zT7)]) (nx := 1) ?_
  rcases Nat.lt_or_ge i l.length with hil | hil
  · obtain ⟨⟨sa, al⟩, h1⟩ : ∃ t, l[i]? = some t := ⟨_, List.getElem?_eq_getElem hil⟩
    obtain ⟨ga, offa, cs, rfl, hlt, hca, av, rfl, ada, capa, rfl, hma⟩ := hm i _ h1
    obtain ⟨hsa, hal, hpa⟩ := hpx _ (List.mem_of_getElem? h1)
    simp only [] at hca hma hsa hal hpa
    obtain ⟨L, hL⟩ : ∃ L, (l.take i).map (fun x => lstT (n + 3) (exTs n x)) = L := ⟨_, rfl⟩
    rw [hL] at I3
    have hld9 : ∀ w', Below w.heap.size w w' → (loadVar 9 ⟨ga, offa + i * 2 + 0, none⟩).run Tryz.prog w' = .ok (.string sa) w' := fun w' hb => load1 (hca.keep (hb.block ga hlt)) 0 rfl 9 Tryz.underlying9 rfl
    have hld36 : ∀ w', Below w.heap.size w w' → (loadVar 41 ⟨ga, offa + i * 2 + 1, none⟩).run Tryz.prog w' = .ok (.slice ada al.length capa) w' := fun w' hb => load1 (hca.keep (hb.block ga hlt)) 1 rfl 41 Tryz.underlying41 rfl
    refine goQ [lS Tryz.underlying26 (ad := some ⟨ga, offa, none⟩) (n := l.length) (cap := cap0) rfl, bO .lss 3 (run_lssZ (x := i) (y := l.length) (b := true) (by simp; omega))] (QJ.rs (CT.loc (n + 3)) _ _ _ _ _ _ _) I3 fun β4 a4 w4 I4 hb4 => ?_
    let St2 : Nat → Act → World → Prop := fun k a w' => ∃ (j : Nat) (β : Nat → Nat) (u : Nat → Value) (ad2 : Option Addr) (cap2 : Nat) (X2 : List (List Value)) (K2 : Nat → Prop), k = al.length - j ∧ j ≤ al.length ∧ X2.length = j ∧ (∀ k, QF w (.slice ad i cap) K k → (Value.slice ad2 j cap2).ownBlock ≠ some k) ∧ (∀ k, K2 k → (Value.slice ad i cap).ownBlock ≠ some k) ∧
      SI (fun w' => QJ (CT (n + 1)) w 83 7 (.slice ad2 j cap2) X2 ((al.take j).map (fun a => lstT (n + 1) (alTs n a))) K2 w' ∧ QJ (CT (n + 3)) w 83 7 (.slice ad i cap) X L K w') (fun k => QF w (.slice ad2 j cap2) K2 k ∨ QF w (.slice ad i cap) K k) [] β (cfC (bodyL2 Tryz.f63) (fillF (scrF 68 rzK) u 0 (rzV (.slice (some ⟨ga, offa, none⟩) l.length cap0) (.slice ad i cap) i (.slice ad2 j cap2) j)) [(0, zT7)] 1) a w'
    refine lpM (bodyL2 Tryz.f63) St2 al.length ?_ ?_
    · obtain ⟨u', Iu⟩ := I4.scr (bodyL2 Tryz.f63) (scrF 68 rzK) (rzV (.slice (some ⟨ga, offa, none⟩) l.length cap0) (.slice ad i cap) i (.slice none 0 0) 0) [(0, zT7)] 1
      refine ⟨0, β4, u', none, 0, [], noK, by omega, Nat.zero_le _, rfl, fun k _ h => (by cases h), fun k h => h.elim, ?_⟩
      refine Iu.less ⟨(QJ.rs (CT.loc (n + 1)) w 83 7 (.slice none 0 0) [] [] noK).loc w w4 (QJ.start _ _ _ _) (Grow.of_below Iu.hJ.below), Iu.hJ⟩ fun k hk => ?_
      rcases hk with (hk | hk | hk) | hk
      · exact .inl hk
      · cases hk
      · exact hk.elim
      · exact hk
    rintro k2 a5 w5 ⟨j, β5, u5, ad2, cap2, X2, K2, rfl, hj, hXj, hF2, hKd, I5⟩
    obtain ⟨L2, hL2⟩ : ∃ L2, (al.take j).map (fun a => lstT (n + 1) (alTs n a)) = L2 := ⟨_, rfl⟩
    rw [hL2] at I5
    refine wp_cfC (tm := fillF (scrF 68 rzK) u5 0 (rzV (.slice (some ⟨ga, offa, none⟩) l.length cap0) (.slice ad i cap) i (.slice ad2 j cap2) j)) (rows := [(0, zT7)]) (nx := 1) ?_
    have hTB : ∀ w', QJ (CT (n + 1)) w 83 7 (.slice ad2 j cap2) X2 L2 K2 w' ∧ QJ (CT (n + 3)) w 83 7 (.slice ad i cap) X L K w' → Below w.heap.size w w' := fun w' h => h.2.below
    rcases Nat.lt_or_ge j al.length with hjl | hjl
    · obtain ⟨⟨de, am, kd, le, ri⟩, h2⟩ : ∃ t, al[j]? = some t := ⟨_, List.getElem?_eq_getElem hjl⟩
      obtain ⟨p1, ⟨m, hkd, pm⟩, p3, p4⟩ := hpa _ (List.mem_of_getElem? h2)
      simp only [] at p1 hkd p3 p4
      subst hkd
      obtain ⟨gb, offb, cs2, rfl, hlt2, hcb, rfl, ham⟩ := hma j _ h2
      have hld59 : ∀ w', Below w.heap.size w w' → (loadVar 66 ⟨gb, offb + j * 8, none⟩).run Tryz.prog w' = .ok (.agg (al8 (de, am, (m : Int), le, ri)).toArray) w' := fun w' hb => loadAl (hcb.keep (hb.block gb hlt2))
      have htk : (al.take (j + 1)).map (fun a => lstT (n + 1) (alTs n a)) = L2 ++ [lstT (n + 1) (alTs n (de, am, (m : Int), le, ri))] := by rw [List.take_add_one, h2, List.map_append, hL2]; rfl
      refine goT (T := (fun w' => QJ (CT (n + 1)) w 83 7 (.slice ad2 j cap2) X2 L2 K2 w' ∧ QJ (CT (n + 3)) w 83 7 (.slice ad i cap) X L K w')) [iA 26 Tryz.underlying26 (sz := 2) (by kernel_rfl) (g := ga) (off := offa) (n := l.length) (cap := cap0) hil, ldA 41 (fun w' h => hld36 w' (hTB w' h)), lS Tryz.underlying41 (ad := some ⟨gb, offb, none⟩) (n := al.length) (cap := capa) rfl, bO .lss 3 (run_lssZ (x := j) (y := al.length) (b := true) (by simp; omega)), iA 26 Tryz.underlying26 (sz := 2) (by kernel_rfl) (g := ga) (off := offa) (n := l.length) (cap := cap0) hil, ldA 41 (fun w' h => hld36 w' (hTB w' h)), iA 41 Tryz.underlying41 (sz := 8) (by kernel_rfl) (g := gb) (off := offb) (n := al.length) (cap := capa) hjl, ldA 66 (fun w' h => hld59 w' (hTB w' h))] ((QJ.rs (CT.loc (n + 1)) _ _ _ _ _ _ _).both (QJ.rs (CT.loc (n + 3)) _ _ _ _ _ _ _)) (fun _ h => h) I5 fun β6 a6 w6 I6 hb6 => ?_
      have hx1 := rbytesT de p1
      have hx3 := rbytesT le p3
      have hx4 := rbytesT ri p4
      have hals : alTs n (de, am, (m : Int), le, ri) = [numT n (s_rdB de), numT n am, numT n m, numT n (s_rdB le), numT n (s_rdB ri)] := rfl
      rw [hals] at htk
      generalize s_rdB de = r1 at hx1 htk
      generalize s_rdB le = r3 at hx3 htk
      generalize s_rdB ri = r4 at hx4 htk
      refine dwT (T := (fun w' => QJ (CT (n + 1)) w 83 7 (.slice ad2 j cap2) X2 L2 K2 w' ∧ QJ (CT (n + 3)) w 83 7 (.slice ad i cap) X L K w')) 17 [kC Tryz.func93 hx1, dO 83 [1] (bd_n1 am), vO 3 23 (p := Z m) (v := B m) (cnvB m (by omega)), kC Tryz.func61 (rnumT m (Nat.lt_trans pm (by decide))), kC Tryz.func93 hx3, kC Tryz.func93 hx4] ((QJ.rs (CT.loc (n + 1)) _ _ _ _ _ _ _).both (QJ.rs (CT.loc (n + 3)) _ _ _ _ _ _ _)) (fun _ h => h) (PanOk.then (PanOk.qk (PanOk.then (PanOk.qk PanOk.post)))) I6 fun a7 w7 I7 => ?_
      refine bslQ (ss := [(0, Sum.inl (nTm r1)), (1, Sum.inl (nTm am)), (2, Sum.inl (nTm m)), (3, Sum.inl (nTm r3)), (4, Sum.inl (nTm r4))]) I7 (bs_t5 (nX r1) (nX am) (nX m) (nX r3) (nX r4) w7) ?_
      have I8 := I7.lay ((QJ.rs (CT.loc (n + 1)) _ _ _ _ _ _ _).both (QJ.rs (CT.loc (n + 3)) _ _ _ _ _ _ _)) (.cells ([tx (nX r1), tx (nX am), tx (nX m), tx (nX r3), tx (nX r4)].flatten).toArray 83) (.slice (some ⟨w7.heap.size, 0, none⟩) 5 5)
      have hbw := I7.hJ.2.below.size
      have hown : ∀ k, (Value.slice ad2 j cap2).ownBlock = some k → k < w7.heap.size := fun k e => (I7.hJ.1.ro.own.lt k e).2
      have hown2 : ∀ k, (Value.slice ad i cap).ownBlock = some k → k < w7.heap.size := fun k e => (I7.hJ.2.ro.own.lt k e).2
      obtain ⟨b, hb2⟩ : ∃ b, w7.heap.size = b := ⟨_, rfl⟩
      rw [hb2] at I8 hown hown2 hbw ⊢
      refine goQ [kC Tryz.func92 (rlistT (some ⟨b, 0, none⟩) 5 5)] (((QJ.rs (CT.loc (n + 1)) _ _ _ _ _ _ _).both (QJ.rs (CT.loc (n + 3)) _ _ _ _ _ _ _)).lay _ _) I8 fun β9 a9 w9 I9 hb9 => ?_
      have hLA : LAf (· = b) w9 (n + 1) (.slice (some ⟨b, 0, none⟩) 5 5) [numT n r1, numT n am, numT n m, numT n r3, numT n r4] := by
        refine blockT (K := (· = b)) (xs := [nX r1, nX am, nX m, nX r3, nX r4]) (l := [numT n r1, numT n am, numT n m, numT n r3, numT n r4]) I9.hJ.2 rfl rfl (fun i x t hx ht => ?_) 5
        match i, hx, ht with
        | 0, hx, ht => cases hx; cases ht; exact ⟨rfl, rfl, rfl, LAf.nil _ _ n⟩
        | 1, hx, ht => cases hx; cases ht; exact ⟨rfl, rfl, rfl, LAf.nil _ _ n⟩
        | 2, hx, ht => cases hx; cases ht; exact ⟨rfl, rfl, rfl, LAf.nil _ _ n⟩
        | 3, hx, ht => cases hx; cases ht; exact ⟨rfl, rfl, rfl, LAf.nil _ _ n⟩
        | 4, hx, ht => cases hx; cases ht; exact ⟨rfl, rfl, rfl, LAf.nil _ _ n⟩
      have I10 := I9.less (J' := fun w' => (QJ (CT (n + 1)) w 83 7 (.slice ad2 j cap2) X2 L2 K2 w' ∧ s_MK (CT (n + 1)) (· = b) (lstT (n + 1) [numT n r1, numT n am, numT n m, numT n r3, numT n r4]) (tx (2, 0, eB, .slice (some ⟨b, 0, none⟩) 5 5)) w') ∧ QJ (CT (n + 3)) w 83 7 (.slice ad i cap) X L K w') (F' := fun k => (QF w (.slice ad2 j cap2) K2 k ∨ k = b) ∨ QF w (.slice ad i cap) K k) ⟨⟨I9.hJ.1.1, ⟨fun k hk => by subst hk; exact (Array.getElem?_eq_some_iff.1 I9.hJ.2).1, _, rfl, hLA⟩⟩, I9.hJ.1.2⟩ (fun k hk => by
        rcases hk with (hk | hk) | hk
        · exact .inl (.inl hk)
        · exact .inr hk
        · exact .inl (.inr hk))
      refine app_gen2 (CT.loc (n + 1)) Tryz.underlying70 hI41 rfl (by decide) (by decide) (QJ.rs (CT.loc (n + 3)) _ _ _ _ _ _ _) (ev := lTm (.slice (some ⟨b, 0, none⟩) 5 5)) (bs_term _ _ _ _ _ _ _ w9) rfl (one7 _ _ _ _ _ _) I10 hF2 hXj (by omega) (fun k hk => by
        subst hk
        exact ⟨by omega, fun e => by have := hown _ e; omega⟩) fun ad8 cap8 a11 w11 hF8 I11 => ?_
      refine goQ [bO .add 3 (run_addZ (x := j) (y := 1) (z := (j + 1 : Nat)) (by rw [wz (by omega) (by omega)]; omega))] ((QJ.rs (CT.loc (n + 1)) _ _ _ _ _ _ _).both (QJ.rs (CT.loc (n + 3)) _ _ _ _ _ _ _)) I11 fun β12 a12 w12 I12 hb12 => ?_
      obtain ⟨u', Iu⟩ := I12.scr (bodyL2 Tryz.f63) (scrF 68 rzK) (rzV (.slice (some ⟨ga, offa, none⟩) l.length cap0) (.slice ad i cap) i (.slice ad8 (j + 1) cap8) (j + 1)) [(0, zT7)] 1
      refine endL ⟨al.length - (j + 1), by omega, j + 1, β12, u', ad8, cap8, X2 ++ [tx (2, 0, eB, .slice (some ⟨b, 0, none⟩) 5 5)], (fun k => K2 k ∨ k = b), rfl, hjl, by rw [List.length_append, hXj]; rfl, hF8, fun k hk => ?_, ?_⟩
      · rcases hk with hk | hk
        · exact hKd k hk
        · subst hk; exact fun e => by have := hown2 _ e; omega
      · rw [htk]
        exact Iu
    · obtain rfl : j = al.length := by omega
      refine goT (T := (fun w' => QJ (CT (n + 1)) w 83 7 (.slice ad2 al.length cap2) X2 L2 K2 w' ∧ QJ (CT (n + 3)) w 83 7 (.slice ad i cap) X L K w')) [iA 26 Tryz.underlying26 (sz := 2) (by kernel_rfl) (g := ga) (off := offa) (n := l.length) (cap := cap0) hil, ldA 41 (fun w' h => hld36 w' (hTB w' h)), lS Tryz.underlying41 (ad := ada) (n := al.length) (cap := capa) rfl, bO .lss 3 (run_lssZ (x := al.length) (y := al.length) (b := false) (by simp))] ((QJ.rs (CT.loc (n + 1)) _ _ _ _ _ _ _).both (QJ.rs (CT.loc (n + 3)) _ _ _ _ _ _ _)) (fun _ h => h) I5 fun β6 a6 w6 I6 hb6 => ?_
      refine endE 2 ?_
      have hx1 := rbytesT sa hsa
      have hexs : exTs n (sa, al) = [numT (n + 2) (s_rdB sa), lstT (n + 2) (al.map (fun a => lstT (n + 1) (alTs n a)))] := rfl
      rw [List.take_length] at hL2
      have htk : (l.take (i + 1)).map (fun x => lstT (n + 3) (exTs n x)) = L ++ [lstT (n + 3) [numT (n + 2) (s_rdB sa), lstT (n + 2) L2]] := by rw [List.take_add_one, h1, List.map_append, hL, ← hL2]; rfl
      generalize s_rdB sa = r1 at hx1 htk
      refine goT (T := (fun w' => QJ (CT (n + 1)) w 83 7 (.slice ad2 al.length cap2) X2 L2 K2 w' ∧ QJ (CT (n + 3)) w 83 7 (.slice ad i cap) X L K w')) [iA 26 Tryz.underlying26 (sz := 2) (by kernel_rfl) (g := ga) (off := offa) (n := l.length) (cap := cap0) hil, ldA 9 (fun w' h => hld9 w' (hTB w' h)), cA Tryz.func93 (fun w' _ => hx1 w'), cA Tryz.func92 (fun w' _ => rlistT ad2 al.length cap2 w')] ((QJ.rs (CT.loc (n + 1)) _ _ _ _ _ _ _).both (QJ.rs (CT.loc (n + 3)) _ _ _ _ _ _ _)) (fun _ h => h) (I6.exit _) fun β7 a7 w7 I7 hb7 => ?_
      refine bslQ (ss := [(0, Sum.inl (nTm r1)), (1, Sum.inl (lTm (.slice ad2 al.length cap2)))]) I7 (bs_t2 (nX r1) (2, 0, eB, .slice ad2 al.length cap2) w7) ?_
      have I8 := I7.lay ((QJ.rs (CT.loc (n + 1)) _ _ _ _ _ _ _).both (QJ.rs (CT.loc (n + 3)) _ _ _ _ _ _ _)) (.cells ([tx (nX r1), tx (2, 0, eB, .slice ad2 al.length cap2)].flatten).toArray 83) (.slice (some ⟨w7.heap.size, 0, none⟩) 2 2)
      have hbw := I7.hJ.2.below.size
      have hown2 : ∀ k, (Value.slice ad i cap).ownBlock = some k → k < w7.heap.size := fun k e => (I7.hJ.2.ro.own.lt k e).2
      obtain ⟨b, hb2⟩ : ∃ b, w7.heap.size = b := ⟨_, rfl⟩
      rw [hb2] at I8 hown2 hbw ⊢
      refine goQ [kC Tryz.func92 (rlistT (some ⟨b, 0, none⟩) 2 2)] (((QJ.rs (CT.loc (n + 1)) _ _ _ _ _ _ _).both (QJ.rs (CT.loc (n + 3)) _ _ _ _ _ _ _)).lay _ _) I8 fun β9 a9 w9 I9 hb9 => ?_
      have hdn := (I9.hJ.1.1.done (CT.loc (n + 1))).terms
      have hkb := I9.hJ.1.1.kb2
      have hLA : LAf (fun k => (K2 k ∨ (Value.slice ad2 al.length cap2).ownBlock = some k) ∨ k = b) w9 (n + 3) (.slice (some ⟨b, 0, none⟩) 2 2) [numT (n + 2) r1, lstT (n + 2) L2] := by
        refine blockT (K := fun k => (K2 k ∨ (Value.slice ad2 al.length cap2).ownBlock = some k) ∨ k = b) (xs := [nX r1, (2, 0, eB, .slice ad2 al.length cap2)]) (l := [numT (n + 2) r1, lstT (n + 2) L2]) I9.hJ.2 (.inr rfl) rfl (fun i x t hx ht => ?_) 2
        match i, hx, ht with
        | 0, hx, ht => cases hx; cases ht; exact ⟨rfl, rfl, rfl, LAf.nil _ _ _⟩
        | 1, hx, ht => cases hx; cases ht; exact ⟨rfl, rfl, rfl, hdn.mono fun k hk => .inl hk⟩
      have I10 := I9.less (J' := fun w' => QJ (CT (n + 3)) w 83 7 (.slice ad i cap) X L K w' ∧ s_MK (CT (n + 3)) (fun k => (K2 k ∨ (Value.slice ad2 al.length cap2).ownBlock = some k) ∨ k = b) (lstT (n + 3) [numT (n + 2) r1, lstT (n + 2) L2]) (tx (2, 0, eB, .slice (some ⟨b, 0, none⟩) 2 2)) w') (F' := fun k => QF w (.slice ad i cap) K k ∨ ((K2 k ∨ (Value.slice ad2 al.length cap2).ownBlock = some k) ∨ k = b)) ⟨I9.hJ.1.2, ⟨fun k hk => by
          rcases hk with hk | hk
          · exact (hkb k hk).2
          · subst hk; exact (Array.getElem?_eq_some_iff.1 I9.hJ.2).1, _, rfl, hLA⟩⟩ (fun k hk => by
        rcases hk with hk | (hk | hk) | hk
        · exact .inl (.inr hk)
        · exact .inl (.inl (.inr (.inr hk)))
        · exact .inl (.inl (.inr (.inl hk)))
        · exact .inr hk)
      refine app_gen (CT.loc (n + 3)) Tryz.underlying70 hI41 rfl (by decide) (by decide) (ev := lTm (.slice (some ⟨b, 0, none⟩) 2 2)) (bs_term _ _ _ _ _ _ _ w9) rfl (one7 _ _ _ _ _ _) I10 hXi (by omega) (fun k hk => by
        rcases hk with hk | hk
        · refine ⟨(hkb k hk).1, ?_⟩
          rcases hk with hk | hk
          · exact hKd k hk
          · exact fun e => hF2 k (.inr (.inl e)) hk
        · subst hk
          exact ⟨by omega, fun e => by have := hown2 _ e; omega⟩) fun ad8 cap8 a11 w11 I11 => ?_
      refine goQ [bO .add 3 (run_addZ (x := i) (y := 1) (z := (i + 1 : Nat)) (by rw [wz (by omega) (by omega)]; omega))] (QJ.rs (CT.loc (n + 3)) _ _ _ _ _ _ _) I11 fun β12 a12 w12 I12 hb12 => ?_
      obtain ⟨u', Iu⟩ := I12.scr (bodyL Tryz.f63) (scrF 68 roK) (roV (.slice (some ⟨ga, offa, none⟩) l.length cap0) (.slice ad8 (i + 1) cap8) (i + 1)) [(0, zT7)] 1
      refine endL ⟨l.length - (i + 1), by omega, i + 1, β12, u', ad8, cap8, X ++ [tx (2, 0, eB, .slice (some ⟨b, 0, none⟩) 2 2)], (fun k => K k ∨ ((K2 k ∨ (Value.slice ad2 al.length cap2).ownBlock = some k) ∨ k = b)), rfl, hil, by rw [List.length_append, hXi]; rfl, ?_⟩
      rw [htk]
      exact Iu
  · obtain rfl : i = l.length := by omega
    refine goQ [lS Tryz.underlying26 (ad := ad0) (n := l.length) (cap := cap0) rfl, bO .lss 3 (run_lssZ (x := l.length) (y := l.length) (b := false) (by simp))] (QJ.rs (CT.loc (n + 3)) _ _ _ _ _ _ _) I3 fun β4 a4 w4 I4 hb4 => ?_
    refine endE 0 ?_
    refine goQ [kC Tryz.func92 (rlistT ad l.length cap)] (QJ.rs (CT.loc (n + 3)) _ _ _ _ _ _ _) (I4.exit _) fun β5 a5 w5 I5 hb5 => ?_
    rw [List.take_length] at I5
    exact outQ (v := lTm (.slice ad l.length cap)) I5 ⟨I5.hJ.below, ad, l.length, cap, _, rfl, I5.hJ.kb2, (I5.hJ.done (CT.loc (n + 3))).terms⟩
end Go.Proofs.YthkpgfbjdabflaaGreatDoor
namespace Go.Proofs.YthkpgfbjdabflaaGreatDoor
open Go.RowKit Go.Sort
set_option linter.unusedVariables false
set_option maxRecDepth 100000
theorem sfitVar_any {w : World} {ev : Value} {v : Va} (h : ExI w ev v.2.2.2) (hx : okX v.2.2.2) : Calls Tryz.prog 20 #[vaV v ev] w fun e w' => e = .returned (.bool (fitV v)) ∧ Below w.heap.size w w' := by
  obtain ⟨tu, fi, da, xs⟩ := v
  obtain ⟨ad, cap, rfl⟩ := h.slice
  refine inQ (J := Below w.heap.size w) (F := (· < w.heap.size)) Tryz.func20 (Below.refl _ _) fun a I => ?_
  have hfit : fitV (tu, fi, da, xs) = (decide (tu ≤ 1099511627776) && decide (da.size ≤ 256) && fitXs xs) := rfl
  rw [hfit]
  by_cases q1 : ¬ tu ≤ 1099511627776
  · refine goQ [bO .leq 23 (run_leqU (x := tu) (y := 1099511627776) (b := false) (decide_eq_false q1))] (nonR w) I fun β a w1 I hb => ?_
    exact outQ (v := .bool false) I ⟨by rw [decide_eq_false q1]; rfl, I.hJ⟩
  have q1 := Classical.not_not.1 q1
  by_cases q2 : ¬ da.size ≤ 256
  · refine goQ [bO .leq 23 (run_leqU (x := tu) (y := 1099511627776) (b := true) (decide_eq_true q1)), lO Tryz.underlying9 (b := da) (n := da.size) rfl, bO .leq 3 (run_leqZ (x := da.size) (y := 256) (b := false) (by simp; omega))] (nonR w) I fun β a w1 I hb => ?_
    exact outQ (v := .bool false) I ⟨by rw [decide_eq_false q2, Bool.and_false]; rfl, I.hJ⟩
  have q2 := Classical.not_not.1 q2
  have hF : ∀ w', Below w.heap.size w w' → Calls Tryz.prog 41 #[.slice ad xs.length cap] w' fun e w'' => e = .returned (.bool (fitXs xs)) ∧ Below w'.heap.size w' w'' := fun w' hb => rfitExits_any (h.below CE.loc hb) hx.2 hx.1
  refine goT (T := Below w.heap.size w) [bO .leq 23 (run_leqU (x := tu) (y := 1099511627776) (b := true) (decide_eq_true q1)), lO Tryz.underlying9 (b := da) (n := da.size) rfl, bO .leq 3 (run_leqZ (x := da.size) (y := 256) (b := true) (by simp; omega)), cA Tryz.func41 hF] (nonR w) (fun _ h => h) I fun β a w1 I hb => ?_
  exact outQ (v := .bool (fitXs xs)) I ⟨by rw [decide_eq_true q1, decide_eq_true q2]; rfl, I.hJ⟩
theorem rvarTerms (n : Nat) {w : World} {v : Va} {ev : Value} (h : ExI w ev v.2.2.2) (hp : putX v.2.2.2) (ht : v.1 < M) : Calls Tryz.prog 43 #[vaV v ev] w (TermsP (n + 5) (vaT n v) w) := by
  obtain ⟨tu, fi, da, xs⟩ := v
  obtain ⟨ad0, cap0, rfl⟩ := h.slice
  refine inQ (J := Below w.heap.size w) (F := (· < w.heap.size)) Tryz.func43 (Below.refl _ _) fun a I => ?_
  cases fi
  · refine goQ [] (nonR w) I fun β a w1 I hb => ?_
    refine dwT (T := Below w.heap.size w) 10 [kC Tryz.func61 (rnumT tu ht), kC Tryz.func61 (rnumT 0 (by decide)), kC Tryz.func62 (rtextT da)] (nonR w) (fun _ h => h) PanOk.post I fun a1 w1 I => ?_
    have hbw1 := I.hJ
    have hsz1 := hbw1.size
    refine mcall (ss := [Sum.inl (.slice ad0 xs.length cap0)]) Tryz.func63 I ?_
    refine (routcome n (h.below CE.loc hbw1) hp).mono fun e w2 he => ?_
    obtain ⟨hb2, ad, m, cap, K, rfl, hK, hLA⟩ := he
    obtain ⟨L, hL⟩ : ∃ L : TL (n + 4), (xs.map fun x => lstT (n + 3) (exTs n x)) = L := ⟨_, rfl⟩
    simp only [hL] at hLA
    have I2 : SI (fun w' => Below w.heap.size w w' ∧ LK K w1.heap.size (n + 4) (.slice ad m cap) L w') (fun k => k < w.heap.size ∨ K k) [] β _ _ w2 := I.moved (Grow.of_below hb2) ⟨hbw1.trans (hb2.mono hsz1), hK, hLA⟩ (fun k hk h => by
      rcases h with h | h
      · exact h
      · have := (hK k h).1; omega) (lTm (.slice ad m cap))
    refine bslQ (ss := [(0, Sum.inl (nTm tu)), (1, Sum.inl (nTm 0)), (2, Sum.inl (tTm da)), (3, Sum.inl (lTm (.slice ad m cap)))]) I2 (bs_t4 (nX tu) (nX 0) (1, 0, da, .slice none 0 0) (2, 0, eB, .slice ad m cap) w2) ?_
    have hsz4 := I2.hJ.1.size
    have I5 := I2.lay ((nonR w).both (LK.rs _ _ _ _ _)) (.cells ([tx (nX tu), tx (nX 0), tx (1, 0, da, .slice none 0 0), tx (2, 0, eB, .slice ad m cap)].flatten).toArray 83) (.slice (some ⟨w2.heap.size, 0, none⟩) 4 4)
    obtain ⟨b, hb4⟩ : ∃ b, w2.heap.size = b := ⟨_, rfl⟩
    rw [hb4] at I5 ⊢
    refine goQ [] (((nonR w).both (LK.rs _ _ _ _ _)).lay _ _) I5 fun β6 a6 w6 I hb6 => ?_
    have hJ := I.hJ
    refine outQ (v := .slice (some ⟨b, 0, none⟩) 4 4) I ⟨hJ.1.1, some ⟨b, 0, none⟩, 4, 4, (fun k => K k ∨ k = b), rfl, fun k hk => ?_, ?_⟩
    · rcases hk with hk | rfl
      · exact ⟨by have := (hJ.1.2.kb k hk).1; omega, (hJ.1.2.kb k hk).2⟩
      · exact ⟨by omega, (Array.getElem?_eq_some_iff.1 hJ.2).1⟩
    · refine blockT (K := fun k => K k ∨ k = b) (xs := [nX tu, nX 0, (1, 0, da, .slice none 0 0), (2, 0, eB, .slice ad m cap)]) (l := vaT n (tu, false, da, xs)) hJ.2 (.inr rfl) rfl (fun i x t hx ht => ?_) 4
      match i, hx, ht with
      | 0, hx, ht => cases hx; cases ht; exact ⟨rfl, rfl, rfl, LAf.nil _ _ _⟩
      | 1, hx, ht => cases hx; cases ht; exact ⟨rfl, rfl, rfl, LAf.nil _ _ _⟩
      | 2, hx, ht => cases hx; cases ht; exact ⟨rfl, rfl, rfl, LAf.nil _ _ _⟩
      | 3, hx, ht =>
        cases hx; cases ht
        refine ⟨rfl, rfl, rfl, ?_⟩
        show LAf _ _ (n + 4) (.slice ad m cap) (xs.map fun x => lstT (n + 3) (exTs n x))
        rw [hL]
        exact hJ.1.2.la.mono fun k hk => .inl hk
  · refine goQ [] (nonR w) I fun β a w1 I hb => ?_
    refine dwT (T := Below w.heap.size w) 10 [kC Tryz.func61 (rnumT tu ht), kC Tryz.func61 (rnumT 1 (by decide)), kC Tryz.func62 (rtextT da)] (nonR w) (fun _ h => h) PanOk.post I fun a1 w1 I => ?_
    have hbw1 := I.hJ
    have hsz1 := hbw1.size
    refine mcall (ss := [Sum.inl (.slice ad0 xs.length cap0)]) Tryz.func63 I ?_
    refine (routcome n (h.below CE.loc hbw1) hp).mono fun e w2 he => ?_
    obtain ⟨hb2, ad, m, cap, K, rfl, hK, hLA⟩ := he
    obtain ⟨L, hL⟩ : ∃ L : TL (n + 4), (xs.map fun x => lstT (n + 3) (exTs n x)) = L := ⟨_, rfl⟩
    simp only [hL] at hLA
    have I2 : SI (fun w' => Below w.heap.size w w' ∧ LK K w1.heap.size (n + 4) (.slice ad m cap) L w') (fun k => k < w.heap.size ∨ K k) [] β _ _ w2 := I.moved (Grow.of_below hb2) ⟨hbw1.trans (hb2.mono hsz1), hK, hLA⟩ (fun k hk h => by
      rcases h with h | h
      · exact h
      · have := (hK k h).1; omega) (lTm (.slice ad m cap))
    refine bslQ (ss := [(0, Sum.inl (nTm tu)), (1, Sum.inl (nTm 1)), (2, Sum.inl (tTm da)), (3, Sum.inl (lTm (.slice ad m cap)))]) I2 (bs_t4 (nX tu) (nX 1) (1, 0, da, .slice none 0 0) (2, 0, eB, .slice ad m cap) w2) ?_
    have hsz4 := I2.hJ.1.size
    have I5 := I2.lay ((nonR w).both (LK.rs _ _ _ _ _)) (.cells ([tx (nX tu), tx (nX 1), tx (1, 0, da, .slice none 0 0), tx (2, 0, eB, .slice ad m cap)].flatten).toArray 83) (.slice (some ⟨w2.heap.size, 0, none⟩) 4 4)
    obtain ⟨b, hb4⟩ : ∃ b, w2.heap.size = b := ⟨_, rfl⟩
    rw [hb4] at I5 ⊢
    refine goQ [] (((nonR w).both (LK.rs _ _ _ _ _)).lay _ _) I5 fun β6 a6 w6 I hb6 => ?_
    have hJ := I.hJ
    refine outQ (v := .slice (some ⟨b, 0, none⟩) 4 4) I ⟨hJ.1.1, some ⟨b, 0, none⟩, 4, 4, (fun k => K k ∨ k = b), rfl, fun k hk => ?_, ?_⟩
    · rcases hk with hk | rfl
      · exact ⟨by have := (hJ.1.2.kb k hk).1; omega, (hJ.1.2.kb k hk).2⟩
      · exact ⟨by omega, (Array.getElem?_eq_some_iff.1 hJ.2).1⟩
    · refine blockT (K := fun k => K k ∨ k = b) (xs := [nX tu, nX 1, (1, 0, da, .slice none 0 0), (2, 0, eB, .slice ad m cap)]) (l := vaT n (tu, true, da, xs)) hJ.2 (.inr rfl) rfl (fun i x t hx ht => ?_) 4
      match i, hx, ht with
      | 0, hx, ht => cases hx; cases ht; exact ⟨rfl, rfl, rfl, LAf.nil _ _ _⟩
      | 1, hx, ht => cases hx; cases ht; exact ⟨rfl, rfl, rfl, LAf.nil _ _ _⟩
      | 2, hx, ht => cases hx; cases ht; exact ⟨rfl, rfl, rfl, LAf.nil _ _ _⟩
      | 3, hx, ht =>
        cases hx; cases ht
        refine ⟨rfl, rfl, rfl, ?_⟩
        show LAf _ _ (n + 4) (.slice ad m cap) (xs.map fun x => lstT (n + 3) (exTs n x))
        rw [hL]
        exact hJ.1.2.la.mono fun k hk => .inl hk
theorem rwrite {w : World} {v : Va} {ev : Value} (h : ExI w ev v.2.2.2) (hx : okX v.2.2.2) (ht : v.1 < M) : Calls Tryz.prog 21 #[vaV v ev] w fun e w' => e = .returned (str (wrV v)) ∧ Below w.heap.size w w' := by
  have ha := h.amt
  obtain ⟨ad, cap, hs⟩ := h.slice
  subst hs
  refine inQ (J := Below w.heap.size w) (F := (· < w.heap.size)) Tryz.func21 (Below.refl _ _) fun a I => ?_
  have hF : ∀ w', Below w.heap.size w w' → Calls Tryz.prog 20 #[vaV v (.slice ad v.2.2.2.length cap)] w' fun e w'' => e = .returned (.bool (fitV v)) ∧ Below w'.heap.size w' w'' := fun w' hb => sfitVar_any (h.below CE.loc hb) hx
  unfold wrV
  cases hf : fitV v with
  | false =>
    rw [hf] at hF
    refine goT (T := Below w.heap.size w) [cA Tryz.func20 hF, uO .not (p := .bool false) (v := .bool true) (by intros; rfl)] (nonR w) (fun _ h => h) I fun β a w1 I hb => ?_
    exact outQ (v := .string eB) I ⟨rfl, I.hJ⟩
  | true =>
    rw [hf] at hF
    refine goT (T := Below w.heap.size w) [cA Tryz.func20 hF, uO .not (p := .bool true) (v := .bool false) (by intros; rfl)] (nonR w) (fun _ h => h) I fun β a w1 I hb => ?_
    refine mcall (ss := [Sum.inl (vaV v (.slice ad v.2.2.2.length cap))]) Tryz.func43 I ?_
    have hsz1 := I.hJ.size
    refine (rvarTerms 4 (h.below CE.loc I.hJ) (fitXs_putX (fitV_put hf).2.2) ht).mono fun e w2 he => ?_
    obtain ⟨hb2, ad2, m2, cap2, K, rfl, hK, hLA⟩ := he
    have hlen := vaT_len hf ht ha
    generalize vaT 4 v = ts at hLA hlen
    have I2 : SI (fun w' => Below w.heap.size w w' ∧ LK K w1.heap.size 9 (.slice ad2 m2 cap2) ts w') (fun k => k < w.heap.size ∨ K k) [] β _ _ w2 := I.moved (Grow.of_below hb2) ⟨I.hJ.trans (hb2.mono hsz1), hK, hLA⟩ (fun k hk h => by
      rcases h with h | h
      · exact h
      · have := (hK k h).1; omega) (.slice ad2 m2 cap2)
    have hE : ∀ w', (Below w.heap.size w w' ∧ LK K w1.heap.size 9 (.slice ad2 m2 cap2) ts w') → Calls Tryz.prog 42 #[.slice ad2 m2 cap2] w' fun e w'' => e = .returned (str (enc 9 ts)) ∧ Below w'.heap.size w' w'' := fun w' hw => renc_any 9 hw.2.la.la (by omega) w' (Below.refl _ _)
    refine goT (T := fun w' => Below w.heap.size w w' ∧ LK K w1.heap.size 9 (.slice ad2 m2 cap2) ts w') [cA Tryz.func42 hE] ((nonR w).both (LK.rs _ _ _ _ _)) (fun _ h => h) I2 fun β3 a3 w3 I hb3 => ?_
    exact outQ (v := str (enc 9 ts)) I ⟨rfl, I.hJ.1⟩
end Go.Proofs.YthkpgfbjdabflaaGreatDoor
namespace Go.Proofs.YthkpgfbjdabflaaGreatDoor
open Go.RowKit Go.Sort
set_option linter.unusedVariables false
set_option maxRecDepth 100000
section
variable {J : World → Prop} {F : Nat → Prop} {ds : List Deferred} {β : Nat → Nat} {c : Cf} {a : Act} {w : World} {Q : Exit → Act → World → Prop}
theorem dwB {T : World → Prop} (t ia is d x : Nat) (z r : Array Value) (v : Value) (hvr : v.cells = r) (hzt : zeV Tryz.prog t = some z) (hzr : z.size = r.size) (hin : (Tryz.prog.info? t).map (·.size) = some r.size) (h1c : r.all (·.oneCell') = true) (hov : ∀ c : Array Value, c.size = r.size → over c 0 r = r) (fs : List (Fa Tryz.prog T)) (R : Rsrc J F) (hT : ∀ w, J w → T w) (I : SI J F ds β c a w)
    (k : ∀ (b : Nat) (vs : Nat → Value) β' a' w', Agree c.nx β β' → SI J F ds β' (adC (dsC Tryz.prog [(ia, none), (is, none)] fs c (fun j => if j = ia then .pointer (some ⟨b, 0, none⟩) else vs j)) d (r)) a' w' → At Tryz.prog Q (adC (dsC Tryz.prog [(ia, none), (is, none)] fs c (fun j => if j = ia then .pointer (some ⟨b, 0, none⟩) else vs j)) d (r)) a' w')
    (hne : decide (is ≠ ia) = true := by kernel_rfl) (h1 : ((opsD c)[ia]?).map (fun o => (o.op, o.dst, o.guard)) = some (.alloc t, some d, none) := by kernel_rfl) (h2 : ((opsD c)[is]?).map (fun o => (o.op, o.dst, o.guard)) = some (.store t (.tmp d) (.tmp x), none, none) := by kernel_rfl)
    (h3 : waitsB (opsD c) is ia = true := by kernel_rfl) (h4 : wr (opsD c) d = some ia := by kernel_rfl) (h5 : evS (opsD c) c.tm ((valsD Tryz.prog [(ia, none), (is, none)] fs c).take is) is (.tmp x) = some (Sum.inl v) := by kernel_rfl) (h6 : decide (d < c.tm.length) = true := by kernel_rfl)
    (h7 : decide (ia < (opsD c).size ∧ is < (opsD c).size) = true := by kernel_rfl) (h8 : ∀ (b : Nat) (vs : Nat → Value), ((dsC Tryz.prog [(ia, none), (is, none)] fs c (fun j => if j = ia then .pointer (some ⟨b, 0, none⟩) else vs j)).tm[d]?).join = some (Sum.inl (.pointer (some ⟨b, 0, none⟩))) := by intro b vs; kernel_rfl)
    (hs : (dsX Tryz.prog [(ia, none), (is, none)] fs c).isSome = true := by kernel_rfl) (he : (dsX Tryz.prog [(ia, none), (is, none)] fs c).map (fun r => r.2.map (·.1)) = (dsX Tryz.prog [(ia, none), (is, none)] fs c).map (fun r => r.2.map (·.2)) := by kernel_rfl) : At Tryz.prog Q c a w := by
  have hne := of_decide_eq_true hne
  have h6 := of_decide_eq_true h6
  obtain ⟨h7a, h7s⟩ := of_decide_eq_true h7
  have hsz : a.tmps.size = c.tm.length := by rw [I.fr]; simp
  have hbit : ∀ {i : Nat} {listed : Array Bool}, i ∈ Region.ready .any (opsD c) listed → i < listed.size ∧ ¬ listed.getD i false = true := by
    intro i listed hrd
    obtain ⟨hun, o', ho', _⟩ := mem_ready.1 hrd
    have hlt : i < listed.size := by
      rcases Nat.lt_or_ge i listed.size with h | h
      · exact h
      · rw [Array.getD_eq_getD_getElem?, Array.getElem?_eq_none h] at hun; cases hun
    refine ⟨hlt, fun h => ?_⟩
    simp [Array.getD, hlt] at hun h
    rw [hun] at h; cases h
  have hset : ∀ {i : Nat} {listed : Array Bool}, i < listed.size → (listed.setIfInBounds i true).getD i false = true := by
    intro i listed hlt
    rw [Array.getD_eq_getD_getElem?, Array.getElem?_setIfInBounds, if_pos rfl, if_pos hlt]; rfl
  refine dwC (T := T) [(ia, none), (is, none)] fs
    (fun listed vs w' => (listed.getD is false = true → listed.getD ia false = true) ∧ (listed.getD ia false = true → ∃ b5, vs ia = .pointer (some ⟨b5, 0, none⟩) ∧ w.heap.size ≤ b5 ∧ HasRow w' b5 (if listed.getD is false = true then r else z))) (fun w1 hb => by
      have hf : ∀ n j, ¬ (Array.replicate n false).getD j false = true := fun n j h => by
        rw [Array.getD_eq_getD_getElem?, Array.getElem?_replicate] at h
        split at h <;> simp at h
      exact ⟨fun h => absurd h (hf _ _), fun h => absurd h (hf _ _)⟩) (fun listed vs w' w'' i v hsp h hb => by
      have hi1 : i ≠ ia := fun e => by subst e; simp [spec] at hsp
      have hi2 : i ≠ is := fun e => by
        subst e
        unfold spec at hsp
        rw [Option.map_eq_none_iff, List.find?_eq_none] at hsp
        exact hsp (i, none) (by simp) (by simp)
      refine ⟨fun h12 => done_keep (h.1 ((done_set h12).resolve_left fun e => hi2 e.symm)), fun h11 => ?_⟩
      have h := h.2
      have e12 : (listed.setIfInBounds i true).getD is false = listed.getD is false := by
        rw [Array.getD_eq_getD_getElem?, Array.getElem?_setIfInBounds, if_neg hi2, ← Array.getD_eq_getD_getElem?]
      obtain ⟨b5, q1, q2, q3⟩ := h ((done_set h11).resolve_left fun e => hi1 e.symm)
      rw [e12]
      exact ⟨b5, by simp only [if_neg (show ¬ ia = i from fun e => hi1 e.symm)]; exact q1, q2, q3.below hb⟩) R hT I ?_ ?_ (by kernel_rfl) hs he
  · intro p hp2 o ho listed vs a' w' hF hrd hbw hC hev
    simp only [List.mem_cons, List.not_mem_nil, or_false] at hp2
    rcases hp2 with rfl | rfl
    · obtain ⟨o1, o2, o3⟩ := opD_get ho h1
      obtain ⟨hlt, hn11⟩ := hbit hrd
      have h12 : ¬ (listed.setIfInBounds ia true).getD is false = true := fun h => hn11 (hC.1 ((done_set h).resolve_left hne))
      refine allocG o1 o3 hzt (by kernel_rfl) fun w2 hb2 hr => ⟨_, rfl, fun u hu => (by cases hu), ⟨fun _ => hset hlt, fun _ => ⟨w'.heap.size, by simp, hbw.size, ?_⟩⟩, hb2.mono hbw.size⟩
      rw [if_neg h12]
      exact hr
    · obtain ⟨o1, o2, o3⟩ := opD_get ho h2
      have hl11 := waits_done (ops := opsD c) (i := is) (j := ia) h3 hrd
      have q1 : a'.eval (.tmp d) = vs ia := hF.new (i := ia) h4 (by omega) hl11
      have q2 : a'.eval (.tmp x) = v := hev (.tmp x) (Sum.inl v) h5
      obtain ⟨b5, e11, g5, hR5⟩ := hC.2 hl11
      obtain ⟨hlt, _⟩ := hbit hrd
      have hset := hset hlt
      obtain ⟨r5, hr5, hsz5⟩ : ∃ r5, HasRow w' b5 r5 ∧ r5.size = r.size := by
        cases hq : listed.getD is false with
        | true => rw [hq] at hR5; exact ⟨r, hR5, rfl⟩
        | false => rw [hq] at hR5; exact ⟨z, hR5, hzr⟩
      refine wpG_plain o3 (Oper.wp_mono ?_ (ob_storea t (.tmp d) (.tmp x) o1 (g := b5) (off := 0) (by rw [q1, e11]) q2 (cs := r) hvr hr5 hin (by rw [hsz5]; omega) h1c (e := over r5 0 r) rfl))
      rintro a2 w2 ⟨rfl, rfl⟩
      refine ⟨undef, rfl, fun u hu => (by cases hu), ⟨fun _ => done_keep hl11, fun _ => ⟨b5, by simp only [if_neg (show ¬ ia = is from fun e => hne e.symm)]; exact e11, g5, ?_⟩⟩, below_setRow (Below.refl _ _) g5 _⟩
      rw [if_pos hset]
      rw [hov r5 hsz5]
      exact hr5.set_same _
  intro listed vs a9 w9 hall hC I9
  obtain ⟨b5, e11, g5, hR5⟩ := hC.2 (hall ia h7a)
  rw [if_pos (hall is h7s)] at hR5
  obtain ⟨vs', rfl⟩ : ∃ vs', vs = fun j => if j = ia then .pointer (some ⟨b5, 0, none⟩) else vs' j := ⟨vs, funext fun j => by split <;> rename_i hj <;> simp [hj, e11]⟩
  refine adopt d (g := b5) (r := r) I9 (h8 b5 vs') hR5 (fun h => by
    have := R.lt w b5 I.hJ h
    omega) (fun p hp e => by
    have := (I.row p hp).lt
    omega) fun β10 hag hb10 I => ?_
  exact k b5 vs' β10 a9 w9 hag I
end
end Go.Proofs.YthkpgfbjdabflaaGreatDoor
