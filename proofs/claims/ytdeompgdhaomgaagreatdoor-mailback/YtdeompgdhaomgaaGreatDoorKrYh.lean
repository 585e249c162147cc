/- Laid one behind the other: Yi, Yk. -/
import Derived.Test.YtdeompgdhaomgaaGreatDoorKrYa
import Derived.Test.YtdeompgdhaomgaaGreatDoorKrTh
import Derived.Test.YtdeompgdhaomgaaGreatDoorKrWg
import Derived.Test.YtdeompgdhaomgaaGreatDoorKrUa
namespace Go.Proofs.YtdeompgdhaomgaaGreatDoor
open Go.RowKit Go.Sort
set_option linter.unusedVariables false
set_option maxRecDepth 100000
/-- One more is put behind the others, something else being held. -/
theorem app_gen2 {α : Type} {C : Cl α} (hC : Loc C) {t e sz by_ : Nat} {z : Value} (ht : Tryz.prog.underlying t = some (.slice e)) (hinf : ∃ i, Tryz.prog.info? e = some i ∧ i.zero = some z ∧ i.size = sz ∧ i.bytes = by_) (hzs : z.cells.size = sz) (hsz : 0 < sz) (hby : by_ ≤ 1000)
    {w : World} {i cap : Nat} {ad : Option Addr} {X : List (List Value)} {l : List α} {K K1 : Nat → Prop} {x : α} {cs : List Value} {ev : Value} {J2 : World → Prop} {F2 : Nat → Prop} (R2 : Rsrc J2 F2) {ds : List Deferred} {β : Nat → Nat} {c : Cf} {a : Act} {w6 : World} {Q : Exit → Act → World → Prop}
    (hbs : (Instr.buildSlice t 1 #[(0, ev)]).run Tryz.prog w6 = .ok (.slice (some ⟨w6.heap.size, 0, none⟩) 1 1) (w6.alloc (.cells cs.toArray e))) (hcs : cs.length = sz) (hone : ∀ u ∈ cs, u.oneCell' = true)
    (I6 : SI (fun w' => (QJ C w e sz (.slice ad i cap) X l K w' ∧ MK C K1 x cs w') ∧ J2 w') (fun k => (QF w (.slice ad i cap) K k ∨ K1 k) ∨ F2 k) ds β c a w6) (hF2 : ∀ k, F2 k → (Value.slice ad i cap).ownBlock ≠ some k) (hXi : X.length = i) (hi : i < 100000000) (hK1 : ∀ k, K1 k → w.heap.size ≤ k ∧ (Value.slice ad i cap).ownBlock ≠ some k)
    (k : ∀ ad8 cap8 a8 w8, (∀ k, F2 k → (Value.slice ad8 (i + 1) cap8).ownBlock ≠ some k) → SI (fun w' => QJ C w e sz (.slice ad8 (i + 1) cap8) (X ++ [cs]) (l ++ [x]) (fun k => K k ∨ K1 k) w' ∧ J2 w') (fun k => QF w (.slice ad8 (i + 1) cap8) (fun k => K k ∨ K1 k) k ∨ F2 k) ds β (nxtQ (nxtQ c (.slice (some ⟨w6.heap.size, 0, none⟩) 1 1)) (.slice ad8 (i + 1) cap8)) a8 w8 → At Tryz.prog Q (nxtQ (nxtQ c (.slice (some ⟨w6.heap.size, 0, none⟩) 1 1)) (.slice ad8 (i + 1) cap8)) a8 w8)
    (hc1 : bsQ c = some (t, 1, [(0, Sum.inl ev)]) := by kernel_rfl)
    (hc2 : bltQ (nxtQ c (.slice (some ⟨w6.heap.size, 0, none⟩) 1 1)) = some (.append, #[t, t], t, [Sum.inl (.slice ad i cap), Sum.inl (.slice (some ⟨w6.heap.size, 0, none⟩) 1 1)]) := by kernel_rfl) : At Tryz.prog Q c a w6 := by
  have hRs := ((QJ.rs hC w e sz (.slice ad i cap) X l K).both (MK.rs hC K1 x cs)).both R2
  refine bslQ (ss := [(0, Sum.inl ev)]) I6 hbs ?_ hc1
  have I7 := I6.alloc hRs (.cells cs.toArray e) (.slice (some ⟨w6.heap.size, 0, none⟩) 1 1)
  obtain ⟨inf, hi1, hi2, hi3, hi4⟩ := hinf
  have hown7 := I7.hJ.1.1.ro.own
  rw [hXi] at hown7
  obtain ⟨v', w8, hr8, ho8, hg8⟩ := app_els ht hi1 hi2 hi3 hi4 hzs hsz hby hown7 I7.hJ.1.1.ro.gr.size ⟨w6.heap.size, 0, none⟩ cs (by rw [hcs, Nat.one_mul]) (alloc_cell w6 cs.toArray e) hone (by omega)
  obtain ⟨ad8, cap8, rfl⟩ := owns_slice ho8
  refine appQ (ss := [Sum.inl (.slice ad i cap), Sum.inl (.slice (some ⟨w6.heap.size, 0, none⟩) 1 1)]) I7 hr8 ?_ hc2
  have hXl1 : (X ++ [cs]).length = i + 1 := by simp [hXi]
  have hXf : X.flatten ++ cs = (X ++ [cs]).flatten := by simp
  rw [hXf] at ho8
  have hk7 : ∀ k, (K k ∨ K1 k) → w.heap.size ≤ k ∧ k < w6.heap.size ∧ (Value.slice ad i cap).ownBlock ≠ some k := fun k hk => by
    rcases hk with hk | hk
    · exact ⟨(I6.hJ.1.1.kb k hk).1, (I6.hJ.1.1.kb k hk).2.1, (I6.hJ.1.1.kb k hk).2.2⟩
    · exact ⟨(hK1 k hk).1, I6.hJ.1.2.kb k hk, (hK1 k hk).2⟩
  have hsz7 : (w6.alloc (.cells cs.toArray e)).heap.size = w6.heap.size + 1 := by simp
  have hblk : ∀ k, (K k ∨ K1 k) → w8.heap[k]? = w6.heap[k]? := fun k hk => by
    obtain ⟨h1, h2, h3⟩ := hk7 k hk
    rw [hg8.gr.block k (by omega) fun e => h3 e.symm]
    exact (below_alloc w6 _).block k h2
  have hro8 : RO w w.heap.size e sz (.slice ad8 (i + 1) cap8) (X ++ [cs]).length (X ++ [cs]).flatten w8 := by
    have h7 := I7.hJ.1.1.ro
    rw [hXi] at h7
    rw [hXl1]
    exact h7.grown ho8 hg8
  have hinn8 : ∀ (j : Nat) (y : List Value) (t : α), (X ++ [cs])[j]? = some y → (l ++ [x])[j]? = some t → y.length = sz ∧ C (fun k => K k ∨ K1 k) w8 t y := by
    intro j y t' h1 h2
    have hl := I6.hJ.1.1.len
    rcases Nat.lt_or_ge j X.length with hj | hj
    · rw [List.getElem?_append_left hj] at h1
      rw [List.getElem?_append_left (by omega)] at h2
      obtain ⟨q1, q2⟩ := I6.hJ.1.1.inn j y t' h1 h2
      exact ⟨q1, hC.keep _ _ _ _ _ _ (fun k hk => ⟨.inl hk, hblk k (.inl hk)⟩) q2⟩
    · rw [List.getElem?_append_right hj] at h1
      rw [List.getElem?_append_right (by omega)] at h2
      have hj0 : j - X.length = 0 := by
        have := (List.getElem?_eq_some_iff.1 h1).1
        simpa using this
      rw [hj0] at h1
      rw [show j - l.length = 0 by omega] at h2
      simp only [List.getElem?_cons_zero, Option.some.injEq] at h1 h2
      subst h1 h2
      exact ⟨hcs, hC.keep _ _ _ _ _ _ (fun k hk => ⟨.inr hk, hblk k (.inr hk)⟩) I6.hJ.1.2.c⟩
  have hF8 : ∀ k, F2 k → (Value.slice ad8 (i + 1) cap8).ownBlock ≠ some k := fun k hk e => by
    rcases hg8.nb k e with h4 | h4
    · exact hF2 k hk h4
    · have := R2.lt w6 k I6.hJ.2 hk
      omega
  exact k ad8 cap8 _ w8 hF8 (I7.moved ⟨hg8.gr.os, hg8.gr.tape, hg8.gr.output, hg8.gr.size, fun k hk hn => hg8.gr.block k hk fun e => hn (.inl (.inl (.inr (.inl e.symm))))⟩ ⟨⟨hro8, fun k hk => by
      obtain ⟨h1, h2, h3⟩ := hk7 k hk
      have := hg8.gr.size
      refine ⟨h1, by omega, fun e => ?_⟩
      rcases hg8.nb k e with h4 | h4
      · exact h3 h4
      · omega, by simp [I6.hJ.1.1.len], hinn8⟩, R2.loc _ w8 I7.hJ.2 ⟨hg8.gr.os, hg8.gr.tape, hg8.gr.output, hg8.gr.size, fun k hk hF => hg8.gr.block k hk fun e => hF2 k hF e.symm⟩⟩ (fun k hk h => by
      rcases h with (h | h | h | h) | h
      · exact .inl (.inl (.inl h))
      · rcases hg8.nb k h with h4 | h4
        · exact .inl (.inl (.inr (.inl h4)))
        · omega
      · exact .inl (.inl (.inr (.inr h)))
      · exact .inl (.inr h)
      · exact .inr h) (.slice ad8 (i + 1) cap8))
end Go.Proofs.YtdeompgdhaomgaaGreatDoor
namespace Go.Proofs.YtdeompgdhaomgaaGreatDoor
open Go.RowKit Go.Sort
set_option linter.unusedVariables false
set_option maxRecDepth 100000
theorem sfitVar_any {w : World} {ev : Value} {v : Va} (h : ExI w ev v.2.2.2) (hx : okX v.2.2.2) : Calls Tryz.prog 25 #[vaV v ev] w fun e w' => e = .returned (.bool (fitV v)) ∧ Below w.heap.size w w' := by
  obtain ⟨tu, fi, da, xs⟩ := v
  obtain ⟨ad, cap, rfl⟩ := h.slice
  refine inQ (J := Below w.heap.size w) (F := (· < w.heap.size)) Tryz.func25 (Below.refl _ _) fun a I => ?_
  have hfit : fitV (tu, fi, da, xs) = (decide (tu ≤ 1099511627776) && decide (da.size ≤ 256) && fitXs xs) := rfl
  rw [hfit]
  by_cases q1 : ¬ tu ≤ 1099511627776
  · refine goQ [bO .leq 23 (run_leqU (x := tu) (y := 1099511627776) (b := false) (decide_eq_false q1))] (nonR w) I fun β a w1 I hb => ?_
    exact outQ (v := .bool false) I ⟨by rw [decide_eq_false q1]; rfl, I.hJ⟩
  have q1 := Classical.not_not.1 q1
  by_cases q2 : ¬ da.size ≤ 256
  · refine goQ [bO .leq 23 (run_leqU (x := tu) (y := 1099511627776) (b := true) (decide_eq_true q1)), lO Tryz.underlying9 (b := da) (n := da.size) rfl, bO .leq 3 (run_leqZ (x := da.size) (y := 256) (b := false) (by simp; omega))] (nonR w) I fun β a w1 I hb => ?_
    exact outQ (v := .bool false) I ⟨by rw [decide_eq_false q2, Bool.and_false]; rfl, I.hJ⟩
  have q2 := Classical.not_not.1 q2
  have hF : ∀ w', Below w.heap.size w w' → Calls Tryz.prog 54 #[.slice ad xs.length cap] w' fun e w'' => e = .returned (.bool (fitXs xs)) ∧ Below w'.heap.size w' w'' := fun w' hb => rfitExits_any (h.below CE.loc hb) hx.2 hx.1
  refine goT (T := Below w.heap.size w) [bO .leq 23 (run_leqU (x := tu) (y := 1099511627776) (b := true) (decide_eq_true q1)), lO Tryz.underlying9 (b := da) (n := da.size) rfl, bO .leq 3 (run_leqZ (x := da.size) (y := 256) (b := true) (by simp; omega)), cA Tryz.func54 hF] (nonR w) (fun _ h => h) I fun β a w1 I hb => ?_
  exact outQ (v := .bool (fitXs xs)) I ⟨by rw [decide_eq_true q1, decide_eq_true q2]; rfl, I.hJ⟩
end Go.Proofs.YtdeompgdhaomgaaGreatDoor
