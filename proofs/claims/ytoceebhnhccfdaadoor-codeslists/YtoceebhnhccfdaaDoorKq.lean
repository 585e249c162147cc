/- The code of a text: the program's Assemble. -/
import Derived.Test.YtoceebhnhccfdaaDoorKp
import Derived.Test.YtoceebhnhccfdaaDoorKo
namespace Go.Proofs.YtoceebhnhccfdaaDoor
open Go.RowKit Go.Sort Go.Shelf
set_option linter.unusedVariables false
set_option maxRecDepth 100000
section
variable {P : Program} {J : World → Prop} {F : Nat → Prop} {ds : List Deferred} {β : Nat → Nat} {c : Cf} {a : Act} {w : World} {Q Q' : Exit → Act → World → Prop}
theorem QK.mono (h : ∀ e a w, Q' e a w → Q e a w) : ∀ (ks : List Ki) (e : Exit) (a : Act) (w : World), QK P Q' ks e a w → QK P Q ks e a w
  | [], e, a, w, hh => h e a w hh
  | Sum.inl x :: ks, e, a, w, hh => by
    cases e with
    | normal => exact Code.wp_mono (fun e a w h2 => QK.mono h ks e a w h2) hh
    | _ => exact QK.mono h ks _ a w hh
  | Sum.inr id :: ks, e, a, w, hh => by
    cases e with
    | exit i =>
      simp only [QK, Exit.inBlock] at hh ⊢
      split
      · next hi => rw [if_pos hi] at hh; exact QK.mono h ks _ a w hh
      · next hi => rw [if_neg hi] at hh; exact QK.mono h ks _ a w hh
    | _ => exact QK.mono h ks _ a w hh
theorem wpL_monoQ {ops : Array Oper} (h : ∀ e a w, Q' e a w → Q e a w) : ∀ (l : List Oper) (a : Act) (w : World), wpL P ops Q' l a w → wpL P ops Q l a w
  | [], a, w, hh => h _ a w hh
  | o :: os, a, w, hh => by
    unfold wpL at hh ⊢
    split
    · next hw => rw [if_pos hw] at hh; exact wp_monoQ (fun ch a w => h _ a w) (fun a w => h _ a w) (Oper.wp_mono (fun a w h2 => wpL_monoQ h os a w h2) hh)
    · next hw => rw [if_neg hw] at hh; exact wpL_monoQ h os _ w hh
theorem At.mono (h : ∀ e a w, Q' e a w → Q e a w) (hh : At P Q' c a w) : At P Q c a w := by
  refine ⟨?_⟩
  have := hh.out
  unfold AtD at this ⊢
  split
  · next e he => rw [he] at this; exact h e a w this
  · next he => rw [he] at this; exact wpL_monoQ (QK.mono h c.ks) _ a w this
def scQ (c : Cf) : Option (Code × List Ki) := match c.dn, c.rest, c.ks with
  | none, [], Sum.inl (.scope x) :: ks => some (x, ks)
  | _, _, _ => none
def scX (c : Cf) : Code := ((scQ c).map (·.1)).getD .skip
def scK (c : Cf) : List Ki := ((scQ c).map (·.2)).getD []
/-- Into a scope, out of which nothing is gone to. -/
theorem scopeQ (I : SI J F ds β c a w) (h : SI J F ds β (cfQ [Sum.inl (scX c)] c.tm c.rows c.nx) a w → At P (Exit.noGoto (QK P Q (scK c))) (cfQ [Sum.inl (scX c)] c.tm c.rows c.nx) a w) (hc : (scQ c).isSome = true := by kernel_rfl) : At P Q c a w := by
  replace h := h (I.cf rfl rfl rfl)
  cases hq : scQ c with
  | none => rw [hq] at hc; cases hc
  | some r =>
    unfold scX scK at h
    simp only [hq, Option.map_some, Option.getD_some] at h
    unfold scQ at hq
    split at hq
    · next x ks hd hr hk =>
      cases hq
      refine ⟨?_⟩
      unfold AtD
      rw [hd, hr, hk]
      exact wp_scope_straight h.out
    · cases hq
def lbQ (c : Cf) : Option (Code × List Ki) := match c.dn, c.rest, c.ks with
  | none, [], Sum.inl (.seq (.label _) x) :: ks => some (x, ks)
  | _, _, _ => none
def lbX (c : Cf) : Code := ((lbQ c).map (·.1)).getD .skip
def lbK (c : Cf) : List Ki := ((lbQ c).map (·.2)).getD []
theorem labelQ (I : SI J F ds β c a w) (h : SI J F ds β (cfQ (Sum.inl (lbX c) :: lbK c) c.tm c.rows c.nx) a w → At P Q (cfQ (Sum.inl (lbX c) :: lbK c) c.tm c.rows c.nx) a w) (hc : (lbQ c).isSome = true := by kernel_rfl) : At P Q c a w := by
  replace h := h (I.cf rfl rfl rfl)
  cases hq : lbQ c with
  | none => rw [hq] at hc; cases hc
  | some r =>
    unfold lbX lbK at h
    simp only [hq, Option.map_some, Option.getD_some] at h
    unfold lbQ at hq
    split at hq
    · next l x ks hd hr hk =>
      cases hq
      refine ⟨?_⟩
      unfold AtD
      rw [hd, hr, hk]
      exact wp_seq (wp_label h.out)
    · cases hq
theorem retM {fn : Func} {v : Value} {Rt : Ending → World → Prop} {n D : Nat} (I : SI J F [{ target := .collected D, args := #[] }] β c a w) (hD : w.heap[D]? = some (.deferred (some []))) (h : Rt (.returned v) (w.putObj D (.deferred none))) (hr : resX P fn (c.tm, [], c.nx) = some v := by kernel_rfl) : bodyPostM Fence.wide n P fn Rt .ret a w := by
  have I2 := I.rebase (c' := { c with rows := [] }) rfl rfl rfl (w' := w.putObj D (.deferred none))
  have hres := resX_ok (st := (c.tm, [], c.nx)) I2.inv hr
  show LeavesInM Fence.wide n P fn a.tmps Rt a.defers .returning w
  rw [I.df]
  exact ⟨by simp, .inl ⟨_, _, rfl, run_takeDeferred hD, _, hres, h⟩⟩
/-- Only by return. -/
def onlyR (Q : Exit → Act → World → Prop) (e : Exit) (a : Act) (w : World) : Prop := e = .ret ∧ Q .ret a w
theorem onlyR.pan : PanOk (onlyR Q) := ⟨fun ch a a' w h h1 => by cases h1.1⟩
end
theorem agM {n m : Nat} {β β' β'' : Nat → Nat} (h : Agree n β β') (k : Agree m β' β'') (hn : n = 3 := by kernel_rfl) (hm : m = 3 := by kernel_rfl) : ∀ i, i < 3 → β'' i = β i := by
  subst hn hm
  exact fun i hi => (k i hi).trans (h i hi)
/-- In a round: a row of bytes that grows, and cells that are written. -/
structure MS (W : World) (N : Nat) (G : Nat → Prop) (v0 v : Value) (l : List UInt8) (w : World) : Prop where
  own : w.ownsRow N 5 1 v l.length (bc l)
  gr : Grow (fun k => ¬ G k ∧ ¬ v0.ownBlock = some k) W w
  nb : ∀ k, v.ownBlock = some k → v0.ownBlock = some k ∨ W.heap.size ≤ k
def MF (W : World) (G : Nat → Prop) (v : Value) (k : Nat) : Prop := (k < W.heap.size ∧ ¬ G k) ∨ v.ownBlock = some k
theorem MS.rs (W : World) (N : Nat) (G : Nat → Prop) (v0 v : Value) (l : List UInt8) : Rsrc (MS W N G v0 v l) (MF W G v) := by
  refine ⟨fun w w' h gr => ⟨owns_grow h.own gr fun k hk => .inr hk, ⟨gr.os.trans h.gr.os, gr.tape.trans h.gr.tape, gr.output.trans h.gr.output, Nat.le_trans h.gr.size gr.size, fun k hk hn => (gr.block k (Nat.lt_of_lt_of_le hk h.gr.size) (.inl ⟨hk, hn.1⟩)).trans (h.gr.block k hk hn)⟩, h.nb⟩, fun w k h hk => ?_⟩
  rcases hk with hk | hk
  · exact Nat.lt_of_lt_of_le hk.1 h.gr.size
  · exact (h.own.lt k hk).2
theorem MS.grown {W : World} {N : Nat} {G : Nat → Prop} {v0 v v' : Value} {l l' : List UInt8} {w w' : World} (h : MS W N G v0 v l w) (ho : w'.ownsRow N 5 1 v' l'.length (bc l')) (hg : Grw v v' w w') : MS W N G v0 v' l' w' := by
  refine ⟨ho, ⟨hg.gr.os.trans h.gr.os, hg.gr.tape.trans h.gr.tape, hg.gr.output.trans h.gr.output, Nat.le_trans h.gr.size hg.gr.size, fun k hk hn => ?_⟩, fun k hk => ?_⟩
  · refine (hg.gr.block k (Nat.lt_of_lt_of_le hk h.gr.size) fun e => ?_).trans (h.gr.block k hk hn)
    rcases h.nb k e.symm with h1 | h1
    · exact hn.2 h1
    · omega
  · rcases hg.nb k hk with h1 | h1
    · exact h.nb k h1
    · exact .inr (Nat.le_trans h.gr.size h1)
theorem SI.grownM {W : World} {N : Nat} {G : Nat → Prop} {v0 v v' : Value} {l l' : List UInt8} {w w' : World} {ds : List Deferred} {β : Nat → Nat} {c : Cf} {a : Act} (I : SI (MS W N G v0 v l) (MF W G v) ds β c a w) (ho : w'.ownsRow N 5 1 v' l'.length (bc l')) (hg : Grw v v' w w') (u : Value) : SI (MS W N G v0 v' l') (MF W G v') ds β (nxtQ c u) (a.put (dstQ c) u) w' :=
  I.moved ⟨hg.gr.os, hg.gr.tape, hg.gr.output, hg.gr.size, fun k hk hn => hg.gr.block k hk fun e => hn (.inr e.symm)⟩ (I.hJ.grown ho hg) (fun k hk h => by
    rcases h with h | h
    · exact .inl h
    · rcases hg.nb k h with h | h
      · exact .inr h
      · omega) u
/-- The code of words. -/
def asF : List (Nat × List UInt8) → List UInt8 → Nat → List UInt8 × Nat × Option Nat
  | [], l, o => (l, o, none)
  | (p, s) :: r, l, o => if (rdW s o).2.2 = true then asF r (l ++ (rdW s o).1) (rdW s o).2.1 else (l, o, some p)
def asV (c : List UInt8) : List UInt8 × Nat × Nat := match asF (wd 0 c) [] 0 with
  | (_, _, some p) => ([], p, 28)
  | (l, o, none) => if 0 < o then ([], c.length, 28) else (l, 0, 0)
theorem asF_take : ∀ (ws : List (Nat × List UInt8)) (i : Nat) (l0 : List UInt8) (o0 : Nat) (l : List UInt8) (o : Nat), asF (ws.take i) l0 o0 = (l, o, none) → asF ws l0 o0 = asF (ws.drop i) l o
  | [], i, l0, o0, l, o, h => by simp [asF] at h ⊢; obtain ⟨rfl, rfl⟩ := h; exact ⟨rfl, rfl⟩
  | m :: ws, 0, l0, o0, l, o, h => by simp [asF] at h; obtain ⟨rfl, rfl⟩ := h; rfl
  | (p, s) :: ws, i + 1, l0, o0, l, o, h => by
    simp only [List.take_succ_cons, asF] at h
    simp only [List.drop_succ_cons, asF]
    split at h
    · next hh => rw [if_pos hh]; exact asF_take ws i _ _ l o h
    · cases h
theorem asF_snoc : ∀ (ws : List (Nat × List UInt8)) (m : Nat × List UInt8) (l0 : List UInt8) (o0 : Nat) (l : List UInt8) (o : Nat), asF ws l0 o0 = (l, o, none) → asF (ws ++ [m]) l0 o0 = asF [m] l o
  | [], m, l0, o0, l, o, h => by simp only [asF, Prod.mk.injEq] at h; obtain ⟨rfl, rfl, _⟩ := h; rfl
  | (p, s) :: ws, m, l0, o0, l, o, h => by
    simp only [List.cons_append, asF] at h ⊢
    split at h
    · next hh => rw [if_pos hh]; exact asF_snoc ws m _ _ l o h
    · cases h
theorem wdF_mem : ∀ (f p : Nat) (l : List UInt8) (m : Nat × List UInt8), m ∈ wdF f p l → m.2.length ≤ l.length ∧ m.1 < p + l.length
  | 0, p, l, m, h => by cases h
  | f + 1, p, [], m, h => by cases h
  | f + 1, p, b :: r, m, h => by
    simp only [wdF, List.mem_append] at h
    rcases h with h | h
    · split at h
      · simp only [List.mem_singleton] at h
        subst h
        simp only [List.length_take, List.length_cons]
        omega
      · cases h
    · have h2 := wl_le (b :: r)
      rcases Nat.lt_or_ge (wl (b :: r) + 1) (b :: r).length with h3 | h3
      · have := wdF_mem f _ _ m h
        rw [List.length_drop] at this
        simp only [List.length_cons] at this h2 h3 ⊢
        omega
      · rw [List.drop_eq_nil_of_le h3] at h
        cases f <;> cases h
theorem wdF_len : ∀ (f p : Nat) (l : List UInt8), (wdF f p l).length ≤ l.length
  | 0, p, l => by simp [wdF]
  | f + 1, p, [] => by simp [wdF]
  | f + 1, p, b :: r => by
    have h := wdF_len f (p + wl (b :: r) + 1) ((b :: r).drop (wl (b :: r) + 1))
    rw [List.length_drop] at h
    have h2 := wl_le (b :: r)
    simp only [wdF, List.length_append, List.length_cons] at h h2 ⊢
    split
    · simp only [List.length_cons, List.length_nil]; omega
    · simp only [List.length_nil]; omega
theorem words_any (c : List UInt8) (w : World) : Calls Tryd.prog 28 #[str c] w fun e w' => ∃ b, e = .returned (.func (.func 39) #[] #[.pointer (some ⟨b, 0, none⟩)]) ∧ w.heap.size ≤ b ∧ HasRow w' b #[str c] ∧ RowKit.Below w.heap.size w w' := by
  go_enter Tryd.func28, Tryd.ntmps28
  go_wp2
  go_ret
  exact ⟨w.heap.size, rfl, Nat.le_refl _, HasRow.last rfl, below_alloc _ _⟩
theorem rdW_ok {s : List UInt8} {o : Nat} (ho : o < 33) (h : (rdW s o).2.2 = true) : (rdW s o).1.length ≤ 33 := by
  unfold rdW at h ⊢
  split
  · next h0 =>
    rw [if_pos h0] at h
    simp only [decide_eq_true_eq] at h
    simp only []
    omega
  · next h0 =>
    rw [if_neg h0] at h
    split
    · simp
    · next h1 =>
      rw [if_neg h1] at h
      simp only [Bool.and_eq_true, decide_eq_true_eq] at h
      simp only []
      omega
theorem rdW_next (s : List UInt8) (o : Nat) : (rdW s o).2.1 < 33 := by
  unfold rdW
  split
  · exact Nat.zero_lt_succ _
  · split
    · exact ownN_lt _
    · exact Nat.zero_lt_succ _
def ksS : Code → List Ki → Option (List Ki)
  | .scope x, ks => ksS x ks
  | .seq (.label _) y, ks => ksOf y ks
  | .seq _ y, ks => ksS y ks
  | _, _ => none
def ksT (fn : Func) : List Ki := (fn.body.bind (ksS · [])).getD []
abbrev asK : List Nat := [0, 2, 3, 4, 5, 6, 7, 14]
abbrev asW (c : List UInt8) (b : Nat) : Vs := frm 42 [(0, Sum.inl (str c)), (2, Sum.inl (str [])), (3, Sum.inl (Z 0)), (4, Sum.inl (Z 0)), (5, Sum.inr (0, 0)), (6, Sum.inr (1, 0)), (7, Sum.inr (2, 0)), (14, Sum.inl (.func (.func 39) #[] #[.pointer (some ⟨b, 0, none⟩)]))]
structure AI (w5 : World) (g5 g6 g7 : Nat) (v : Value) (l : List UInt8) (o : Nat) (z : Int) (W : World) : Prop where
  r5 : HasRow W g5 #[v]
  r6 : HasRow W g6 #[Z o]
  r7 : HasRow W g7 #[Z z]
  own : W.ownsRow w5.heap.size 5 1 v l.length (bc l)
  gr : Grow (fun k => ¬ (k = g5 ∨ k = g6 ∨ k = g7)) w5 W
theorem AI.sf {w5 : World} {g5 g6 g7 : Nat} {v : Value} {l : List UInt8} {o : Nat} {z : Int} {A B : World} (h : AI w5 g5 g6 g7 v l o z A) (hs : Sf w5.heap.size A B) : AI w5 g5 g6 g7 v l o z B :=
  ⟨hs.row h.r5, hs.row h.r6, hs.row h.r7, hs.owns h.own, ⟨hs.bl.os.trans h.gr.os, hs.bl.tape.trans h.gr.tape, hs.bl.output.trans h.gr.output, Nat.le_trans h.gr.size hs.bl.size, fun k hk hn => (hs.bl.block k hk).trans (h.gr.block k hk hn)⟩⟩
abbrev r3 (v : Value) (o : Nat) (z : Int) : Rows := [(0, #[v]), (1, #[Z o]), (2, #[Z z])]
/-- What stands at hand, out of what holds. -/
theorem AI.si {w5 : World} {g5 g6 g7 : Nat} {v : Value} {l : List UInt8} {o : Nat} {z : Int} {W : World} (h : AI w5 g5 g6 g7 v l o z W) {β : Nat → Nat} (h5 : β 0 = g5) (h6 : β 1 = g6) (h7 : β 2 = g7) (e56 : g5 ≠ g6) (e57 : g5 ≠ g7) (e67 : g6 ≠ g7) (l5 : g5 < w5.heap.size) (l6 : g6 < w5.heap.size) (l7 : g7 < w5.heap.size)
    {ds : List Deferred} {c : Cf} {a : Act} (hfr : a.tmps = (c.tm.map (upO β)).toArray) (hdf : a.defers = ds) (hr : c.rows = r3 v o z) (hn : c.nx = 3) (hi : idsB c.tm 3 = true) : SI (MS W w5.heap.size (fun k => k = g5 ∨ k = g6 ∨ k = g7) v v l) (MF W (fun k => k = g5 ∨ k = g6 ∨ k = g7) v) ds β c a W := by
  have hob : ∀ g, g < w5.heap.size → ¬ v.ownBlock = some g := fun g hg e => by have := (h.own.lt g e).1; omega
  refine ⟨hfr, hdf, ⟨h.own, Grow.refl _ _, fun k h => .inl h⟩, ?_, ?_, ?_, ?_, by rw [hn]; exact hi⟩
  · rw [hr]; intro q hq
    simp only [r3, List.mem_cons, List.not_mem_nil, or_false] at hq
    rcases hq with rfl | rfl | rfl
    · exact h5 ▸ h.r5
    · exact h6 ▸ h.r6
    · exact h7 ▸ h.r7
  · rw [hr]; intro q hq
    simp only [r3, List.mem_cons, List.not_mem_nil, or_false] at hq
    rcases hq with rfl | rfl | rfl
    · simp only [h5]; exact fun hh => hh.elim (fun hh => hh.2 (.inl rfl)) (hob _ l5)
    · simp only [h6]; exact fun hh => hh.elim (fun hh => hh.2 (.inr (.inl rfl))) (hob _ l6)
    · simp only [h7]; exact fun hh => hh.elim (fun hh => hh.2 (.inr (.inr rfl))) (hob _ l7)
  · rw [hr, hn]; intro q hq
    simp only [r3, List.mem_cons, List.not_mem_nil, or_false] at hq
    rcases hq with rfl | rfl | rfl <;> simp
  · rw [hr]; intro q hq q' hq' hne
    simp only [r3, List.mem_cons, List.not_mem_nil, or_false] at hq hq'
    rcases hq with rfl | rfl | rfl <;> rcases hq' with rfl | rfl | rfl <;> simp only [h5, h6, h7] <;> first | exact absurd rfl hne | assumption | exact Ne.symm ‹_›
theorem AI.keeps {w5 : World} {g5 g6 g7 : Nat} {v v' : Value} {l l' : List UInt8} {o : Nat} {z : Int} {W w' : World} (h : AI w5 g5 g6 g7 v l o z W) (hm : MS W w5.heap.size (fun k => k = g5 ∨ k = g6 ∨ k = g7) v v' l' w') (B : Nat) : KeepsFrom B W w' ∧ Grow (fun k => ¬ (k = g5 ∨ k = g6 ∨ k = g7)) w5 w' := by
  refine ⟨KeepsFrom.of_grow hm.gr fun k ob hk ho => ⟨?_, ?_⟩, ?_⟩
  · rintro (rfl | rfl | rfl)
    · obtain ⟨t, ht⟩ := h.r5
      rw [ht] at hk; cases hk; cases ho
    · obtain ⟨t, ht⟩ := h.r6
      rw [ht] at hk; cases hk; cases ho
    · obtain ⟨t, ht⟩ := h.r7
      rw [ht] at hk; cases hk; cases ho
  · intro e
    rcases h.own.2 with ⟨h1, _⟩ | ⟨g, cp, cur, h1, h2, h3, _⟩
    · rw [h1] at e; cases e
    · rw [h1] at e; cases e; rw [h3] at hk; cases hk; cases ho
  · refine ⟨hm.gr.os.trans h.gr.os, hm.gr.tape.trans h.gr.tape, hm.gr.output.trans h.gr.output, Nat.le_trans h.gr.size hm.gr.size, fun k hk hn => (hm.gr.block k (Nat.lt_of_lt_of_le hk h.gr.size) ⟨hn, fun e => ?_⟩).trans (h.gr.block k hk hn)⟩
    have := (h.own.lt k e).1
    omega
set_option maxHeartbeats 4000000 in
theorem assemble_any {w : World} (hT : Tb w) (c : List UInt8) (hc : c.length < 10000000) : Calls Tryd.prog 17 #[str c] w fun e w' => e = .returned (.tuple #[str (asV c).1, Z ((asV c).2.1 : Nat), Z ((asV c).2.2 : Nat)]) ∧ RowKit.Below w.heap.size w w' := by
  refine inM (J := RowKit.Below w.heap.size w) (F := (· < w.heap.size)) 6 Tryd.func17 (RowKit.Below.refl _ _) fun a I => ?_
  refine goQ [] (nonR w) I fun β a w2 I2 hb => ?_
  refine scopeQ I2 fun I => ?_
  refine At.mono (Q' := onlyR (bodyPostM Fence.wide 6 Tryd.prog Tryd.f17 fun e w' => e = .returned (.tuple #[str (asV c).1, Z ((asV c).2.1 : Nat), Z ((asV c).2.2 : Nat)]) ∧ RowKit.Below w.heap.size w w')) (fun e a w h => ?_) ?_
  · obtain ⟨rfl, h⟩ := h
    exact h
  refine goQ [] (nonR w) I fun β a w3 I3 hb => ?_
  refine labelQ I3 fun I3 => ?_
  refine goQ [] (nonR w) I3 fun β a w3 I3 hb => ?_
  refine mcall (f := 28) (ss := [Sum.inl (str c)]) Tryd.func28 I3 ((words_any c w3).mono fun e w4 he => ?_)
  obtain ⟨b, rfl, hbs, hrow, hbl⟩ := he
  have hw3 := I3.hJ.size
  have I4 := I3.moved (J' := fun w' => RowKit.Below w.heap.size w w' ∧ HasRow w' b #[str c]) (F' := fun k => k < w.heap.size ∨ k = b) (Grow.of_below hbl)
    ⟨I3.hJ.trans (hbl.mono hw3), hrow⟩ (fun k hk h => h.elim id fun e => by omega) (.func (.func 39) #[] #[.pointer (some ⟨b, 0, none⟩)])
  have R4 : Rsrc (fun w' => RowKit.Below w.heap.size w w' ∧ HasRow w' b #[str c]) (fun k => k < w.heap.size ∨ k = b) := by
    refine ⟨fun A B h gr => ⟨(nonR w).loc A B h.1 ⟨gr.os, gr.tape, gr.output, gr.size, fun k hk hF => gr.block k hk (.inl hF)⟩, ?_⟩, fun A k h hk => ?_⟩
    · obtain ⟨t, ht⟩ := h.2
      exact ⟨t, by rw [gr.block b (Array.getElem?_eq_some_iff.1 ht).1 (.inr rfl)]; exact ht⟩
    · rcases hk with hk | rfl
      · exact (nonR w).lt A k h.1 hk
      · exact h.2.lt
  refine goQ [] R4 I4 fun β a w5 I5 hb5 => ?_
  obtain ⟨u, Iu⟩ := I5.scr .skip (scrF 42 asK) (asW c b) (r3 (.slice none 0 0) 0 (-1)) 3
  refine at_ks (ks := ksT Tryd.f17) (tm := fillF (scrF 42 asK) u 0 (asW c b)) (rows := r3 (.slice none 0 0) 0 (-1)) (nx := 3) ?_
  have I6 : SI _ _ [] β (cfQ (ksT Tryd.f17) (fillF (scrF 42 asK) u 0 (asW c b)) (r3 (.slice none 0 0) 0 (-1)) 3) a w5 := Iu.cf rfl rfl rfl
  clear I5 Iu I4 I3
  obtain ⟨g5, h5⟩ : ∃ g, β 0 = g := ⟨_, rfl⟩
  obtain ⟨g6, h6⟩ : ∃ g, β 1 = g := ⟨_, rfl⟩
  obtain ⟨g7, h7⟩ : ∃ g, β 2 = g := ⟨_, rfl⟩
  have m0 : ((0, #[.slice none 0 0]) : Nat × Array Value) ∈ (cfQ (ksT Tryd.f17) (fillF (scrF 42 asK) u 0 (asW c b)) (r3 (.slice none 0 0) 0 (-1)) 3).rows := by simp [r3]
  have m1 : ((1, #[Z (0 : Nat)]) : Nat × Array Value) ∈ (cfQ (ksT Tryd.f17) (fillF (scrF 42 asK) u 0 (asW c b)) (r3 (.slice none 0 0) 0 (-1)) 3).rows := by simp [r3]
  have m2 : ((2, #[Z (-1)]) : Nat × Array Value) ∈ (cfQ (ksT Tryd.f17) (fillF (scrF 42 asK) u 0 (asW c b)) (r3 (.slice none 0 0) 0 (-1)) 3).rows := by simp [r3]
  have hr5 : HasRow w5 g5 #[.slice none 0 0] := h5 ▸ I6.row _ m0
  have hr6 : HasRow w5 g6 #[Z (0 : Nat)] := h6 ▸ I6.row _ m1
  have hr7 : HasRow w5 g7 #[Z (-1)] := h7 ▸ I6.row _ m2
  have d5 := I6.dis _ m0
  have d6 := I6.dis _ m1
  have d7 := I6.dis _ m2
  have e56 : g5 ≠ g6 := h5 ▸ h6 ▸ I6.inj _ m0 _ m1 (by decide)
  have e57 : g5 ≠ g7 := h5 ▸ h7 ▸ I6.inj _ m0 _ m2 (by decide)
  have e67 : g6 ≠ g7 := h6 ▸ h7 ▸ I6.inj _ m1 _ m2 (by decide)
  simp only [h5] at d5
  simp only [h6] at d6
  simp only [h7] at d7
  have hJ5 := I6.hJ
  have l5 := hr5.lt
  have l6 := hr6.lt
  have l7 := hr7.lt
  have lb := hJ5.2.lt
  have hbG : ¬ (b = g5 ∨ b = g6 ∨ b = g7) := by
    rintro (e | e | e)
    · exact d5 (.inr e.symm)
    · exact d6 (.inr e.symm)
    · exact d7 (.inr e.symm)
  have hwG : ∀ k, k < w.heap.size → ¬ (k = g5 ∨ k = g6 ∨ k = g7) := by
    rintro k hk (rfl | rfl | rfl)
    · exact d5 (.inl hk)
    · exact d6 (.inl hk)
    · exact d7 (.inl hk)
  have hw5 := hJ5.1.size
  have hbelow : ∀ W, Grow (fun k => ¬ (k = g5 ∨ k = g6 ∨ k = g7)) w5 W → RowKit.Below w.heap.size w W := fun W h => ⟨h.os.trans hJ5.1.os, h.tape.trans hJ5.1.tape, h.output.trans hJ5.1.output, Nat.le_trans hw5 h.size, fun k hk => (h.block k (by omega) (hwG k hk)).trans (hJ5.1.block k hk)⟩
  have hNl : (wd 0 c).length ≤ c.length := wdF_len _ _ _
  refine rangeQ 6 (by decide) Tryd.func39 (words_seq 5 b c (by omega)) I6
    (fun i W => ∃ v l o, asF ((wd 0 c).take i) [] 0 = (l, o, none) ∧ l.length ≤ 33 * i ∧ o < 33 ∧ AI w5 g5 g6 g7 v l o (-1) W)
    (fun cc W => cc = .exit 0 ∧ ∃ v l o l' o' p, asF (wd 0 c) [] 0 = (l', o', some p) ∧ AI w5 g5 g6 g7 v l o (p : Nat) W ∧ p ≤ c.length)
    (fun i A h => ?_) (fun i A h => ?_) (fun i A B h hs => ?_) (fun cc A B h hs => ?_) ⟨.slice none 0 0, [], 0, rfl, by simp, by decide, hr5, hr6, hr7, ⟨rfl, .inl ⟨rfl, rfl⟩⟩, Grow.refl _ _⟩ (fun i => by kernel_rfl)
    (fun i => parV [15, 16, 8, 9] ((pcE (wd 0 c) i).toList ++ (pcE (wd 0 c) i).toList) (fillF (scrF 42 asK) u 0 (asW c b))) ?_ ?_ ?_ ?_
  · obtain ⟨v, l, o, _, _, _, h⟩ := h
    obtain ⟨t, ht⟩ := hJ5.2
    exact ⟨t, (h.gr.block b lb hbG).trans ht⟩
  · obtain ⟨v, l, o, _, _, _, h⟩ := h
    exact h.gr.size
  · obtain ⟨v, l, o, q1, q2, q3, h⟩ := h
    exact ⟨v, l, o, q1, q2, q3, h.sf hs⟩
  · obtain ⟨q0, v, l, o, l', o', p, q1, h, hp⟩ := h
    exact ⟨q0, v, l, o, l', o', p, q1, h.sf hs, hp⟩
  · intro l i W K a' IA hK
    have hA : rfA (cfQ (ksT Tryd.f17) (fillF (scrF 42 asK) u 0 (asW c b)) (r3 (.slice none 0 0) 0 (-1)) 3) = (Code.region 4 (regO Tryd.f17 4) false).seq (Code.region 5 (regO Tryd.f17 5) false) := by kernel_rfl
    rw [hA]
    refine wpIn_seq (regR IA fun IA => ?_)
    refine goQ [] (nonR W) IA fun β1 a1 w1 IB hb1 => ?_
    refine atN (regR IB fun IB => ?_)
    refine goQ [] (nonR W) IB fun β2 a2 w2 IC hb2 => ?_
    exact atN (hK a2 w2 IC.hJ (IC.frE (nx := 3) (agM hb1 hb2) _) IC.df)
  · rintro rl i a' W hi ⟨v, l, o, hq1, hq2, hq3, hAI⟩ hfr hdf
    obtain ⟨m, hm⟩ : ∃ m, (wd 0 c)[i]? = some m := ⟨_, List.getElem?_eq_getElem hi⟩
    have hmD : (wd 0 c).getD i (0, []) = m := by rw [List.getD_eq_getElem?_getD, hm]; rfl
    obtain ⟨hm1, hm2⟩ := wdF_mem _ _ _ m (List.mem_of_getElem? hm)
    have htk : (wd 0 c).take (i + 1) = (wd 0 c).take i ++ [m] := by rw [List.take_add_one, hm]; rfl
    have hsn := asF_snoc _ m _ _ _ _ hq1
    rw [← htk] at hsn
    have hdr := asF_take _ i _ _ _ _ hq1
    have hdm : (wd 0 c).drop i = m :: (wd 0 c).drop (i + 1) := by
      rw [List.drop_eq_getElem_cons hi]
      congr 1
      exact (List.getElem?_eq_some_iff.1 hm).2
    rw [hdm] at hdr
    obtain ⟨p, s⟩ := m
    simp only [] at hm1 hm2
    simp only [pcE, hmD] at hfr
    simp only [asF] at hsn hdr
    have hrd : ∀ w', Tb w' → Calls Tryd.prog 29 #[str s, Z o] w' fun e w'' => e = .returned (.tuple #[str (rdW s o).1, Z ((rdW s o).2.1 : Nat), .bool (rdW s o).2.2]) ∧ RowKit.Below w'.heap.size w' w'' := fun w' h => read_any h s (by omega) o (by omega)
    have hok := rdW_ok (s := s) hq3
    have hnx := rdW_next s o
    generalize rdW s o = rw_ at *
    obtain ⟨raw, nx, ok⟩ := rw_
    simp only [] at hsn hdr hrd hok hnx
    obtain ⟨ad, cap, rfl⟩ := owns_slice hAI.own
    have hTL : ∀ w', MS W w5.heap.size (fun k => k = g5 ∨ k = g6 ∨ k = g7) (.slice ad l.length cap) (.slice ad l.length cap) l w' → Tb w' := fun w' h => hT.below (hbelow w' (hAI.keeps h 0).2)
    have hB : rfB (cfQ (ksT Tryd.f17) (fillF (scrF 42 asK) u 0 (asW c b)) (r3 (.slice none 0 0) 0 (-1)) 3) = Code.block 1 ((Code.region 6 (regO Tryd.f17 6) false).seq (((Code.region 7 (regO Tryd.f17 7) false).seq (Code.cond (.tmp 25) ((Code.region 8 (regO Tryd.f17 8) false).seq (.exit 0)) .skip)).seq ((Code.region 9 (regO Tryd.f17 9) false).seq (Code.region 10 (regO Tryd.f17 10) false)))) := by kernel_rfl
    rw [hB]
    have IR := hAI.si h5 h6 h7 e56 e57 e67 l5 l6 l7 (c := cfQ [] (parV [15, 16, 8, 9] [Z (p : Nat), str s, Z (p : Nat), str s] (fillF (scrF 42 asK) u 0 (asW c b))) (r3 (.slice ad l.length cap) o (-1)) 3) hfr hdf rfl rfl (by kernel_rfl)
    refine wpIn_block (wpIn_seq (regR IR fun IR => ?_))
    refine goT (T := Tb) [cA Tryd.func29 hrd] (MS.rs _ _ _ _ _ _) hTL IR fun β1 a1 w1 I1 hb1 => ?_
    cases ok with
    | false =>
      rw [if_neg (by simp)] at hdr
      refine atN (wpIn_seq (wpIn_seq (regR I1 fun I1 => ?_)))
      refine goQ [uO .not (p := .bool false) (v := .bool true) run_not] (MS.rs _ _ _ _ _ _) I1 fun β2 a2 w2 I2 hb2 => ?_
      have hev : a2.eval (.tmp 25) = .bool true := evQ_ok (s := Sum.inl (.bool true)) I2.fr (by kernel_rfl)
      refine atN (wpIn_cond_true hev (wpIn_seq (regR I2 fun I2 => ?_)))
      refine goQ [] (MS.rs _ _ _ _ _ _) I2 fun β3 a3 w3 I3 hb3 => ?_
      have q5 : β3 0 = g5 := agr hb3 0 (agr hb2 0 (agr hb1 0 h5))
      have q6 : β3 1 = g6 := agr hb3 1 (agr hb2 1 (agr hb1 1 h6))
      have q7 : β3 2 = g7 := agr hb3 2 (agr hb2 2 (agr hb1 2 h7))
      have z5 := I3.rowG 0 q5 (r := #[.slice ad l.length cap])
      have z6 := I3.rowG 1 q6 (r := #[Z (o : Nat)])
      have z7 := I3.rowG 2 q7 (r := #[Z (p : Nat)])
      have hk := hAI.keeps I3.hJ w5.heap.size
      refine atN (wpIn_exit ?_)
      exact ⟨hk.1, rfl, _, l, o, l, o, p, hdr, ⟨z5, z6, z7, I3.hJ.own, hk.2⟩, by omega⟩
    | true =>
      rw [if_pos rfl] at hsn
      have hrl := hok rfl
      refine atN (wpIn_seq (wpIn_seq (regR I1 fun I1 => ?_)))
      refine goQ [uO .not (p := .bool true) (v := .bool false) run_not] (MS.rs _ _ _ _ _ _) I1 fun β2 a2 w2 I2 hb2 => ?_
      have hev : a2.eval (.tmp 25) = .bool false := evQ_ok (s := Sum.inl (.bool false)) I2.fr (by kernel_rfl)
      refine atN (wpIn_cond_false hev (wpIn_skip ?_))
      refine wpIn_seq (regR I2 fun I2 => ?_)
      refine goQ [] (MS.rs _ _ _ _ _ _) I2 fun β3 a3 w3 I3 hb3 => ?_
      have hsz : (⟨raw.toArray⟩ : ByteArray).size = raw.length := str_size raw
      obtain ⟨v', w8, hr8, ho8, hg8⟩ := app_str I3.hJ.own (by have := hAI.gr.size; have := I3.hJ.gr.size; omega) ⟨raw.toArray⟩ (by rw [hsz]; omega)
      rw [hsz, strC, ← List.length_append, show bc l ++ bc raw = bc (l ++ raw) by simp [bc]] at ho8
      obtain ⟨ad8, cap8, rfl⟩ := owns_slice ho8
      refine appQ (ss := [Sum.inl (.slice ad l.length cap), Sum.inl (str raw)]) I3 hr8 ?_
      have I8 := I3.grownM ho8 hg8 (.slice ad8 (l ++ raw).length cap8)
      have hll : (l ++ raw).length ≤ 33 * (i + 1) := by rw [List.length_append]; omega
      generalize hln : l ++ raw = l' at *
      refine goQ [] (MS.rs _ _ _ _ _ _) I8 fun β9 a9 w9 I9 hb9 => ?_
      refine atN (regR I9 fun I9 => ?_)
      refine goQ [] (MS.rs _ _ _ _ _ _) I9 fun β10 a10 w10 I10 hb10 => ?_
      have q5 : β10 0 = g5 := agr hb10 0 (agr hb9 0 (agr hb3 0 (agr hb2 0 (agr hb1 0 h5))))
      have q6 : β10 1 = g6 := agr hb10 1 (agr hb9 1 (agr hb3 1 (agr hb2 1 (agr hb1 1 h6))))
      have q7 : β10 2 = g7 := agr hb10 2 (agr hb9 2 (agr hb3 2 (agr hb2 2 (agr hb1 2 h7))))
      have z5 := I10.rowG 0 q5 (r := #[.slice ad8 l'.length cap8])
      have z6 := I10.rowG 1 q6 (r := #[Z (nx : Nat)])
      have z7 := I10.rowG 2 q7 (r := #[Z (-1)])
      have hk := hAI.keeps I10.hJ w5.heap.size
      exact atN ⟨hk.1, _, l', nx, hsn, hll, hnx, z5, z6, z7, I10.hJ.own, hk.2⟩
  · rintro D W a' hD ⟨v, l, o, hq1, hq2, hq3, hAI⟩ hDD htm hdf
    rw [List.take_length] at hq1
    obtain ⟨ad, cap, rfl⟩ := owns_slice hAI.own
    have IR := hAI.si h5 h6 h7 e56 e57 e67 l5 l6 l7 (c := cfQ (rfK (cfQ (ksT Tryd.f17) (fillF (scrF 42 asK) u 0 (asW c b)) (r3 (.slice none 0 0) 0 (-1)) 3)) (fillF (scrF 42 asK) u 0 (asW c b)) (r3 (.slice ad l.length cap) o (-1)) 3) (htm.trans I6.fr) hdf rfl rfl (by kernel_rfl)
    have hfin : ∀ w8, MS W w5.heap.size (fun k => k = g5 ∨ k = g6 ∨ k = g7) (.slice ad l.length cap) (.slice ad l.length cap) l w8 → w8.heap[D]? = some (.deferred (some [])) ∧ RowKit.Below w.heap.size w (w8.putObj D (.deferred none)) := fun w8 h => by
      have hk := hAI.keeps h w5.heap.size
      exact ⟨hk.1.same D _ hD hDD rfl, (hbelow w8 hk.2).trans (belowPut _ _ (by omega))⟩
    refine atK IR fun IR => ?_
    by_cases h0 : 0 < o
    · have hV : asV c = ([], c.length, 28) := by unfold asV; rw [hq1]; simp [h0]
      rw [hV]
      refine goQ [bO .geq 3 (run_geqZ (x := -1) (y := 0) (b := false) (by decide)), bO .gtr 3 (run_gtrZ (x := o) (y := 0) (b := true) (by simp; omega)), lnO c] (MS.rs _ _ _ _ _ _) IR fun β8 a8 w8 I8 hb8 => ?_
      obtain ⟨hD8, hB8⟩ := hfin w8 I8.hJ
      exact atR ⟨rfl, retM (v := .tuple #[str [], Z c.length, Z 28]) I8 hD8 ⟨rfl, hB8⟩⟩
    · have hV : asV c = (l, 0, 0) := by unfold asV; rw [hq1]; simp [h0]
      rw [hV]
      refine goQ [bO .geq 3 (run_geqZ (x := -1) (y := 0) (b := false) (by decide)), bO .gtr 3 (run_gtrZ (x := o) (y := 0) (b := false) (by simp; omega))] (MS.rs _ _ _ _ _ _) IR fun β8 a8 w8 I8 hb8 => ?_
      refine cnvQ I8 (text_own I8.hJ.own) ?_
      have I9 := I8.same (str l)
      refine goQ [] (MS.rs _ _ _ _ _ _) I9 fun β9 a9 w9 I9 hb9 => ?_
      obtain ⟨hD8, hB8⟩ := hfin w9 I9.hJ
      exact atR ⟨rfl, retM (v := .tuple #[str l, Z 0, Z 0]) I9 hD8 ⟨rfl, hB8⟩⟩
  · rintro D cc W a' hD ⟨rfl, v, l, o, l', o', p, hq1, hAI, hpl⟩ hDD htm hdf
    obtain ⟨ad, cap, rfl⟩ := owns_slice hAI.own
    have IR := hAI.si h5 h6 h7 e56 e57 e67 l5 l6 l7 (c := cfQ (rfK (cfQ (ksT Tryd.f17) (fillF (scrF 42 asK) u 0 (asW c b)) (r3 (.slice none 0 0) 0 (-1)) 3)) (fillF (scrF 42 asK) u 0 (asW c b)) (r3 (.slice ad l.length cap) o (p : Nat)) 3) (htm.trans I6.fr) hdf rfl rfl (by kernel_rfl)
    have hfin : ∀ w8, MS W w5.heap.size (fun k => k = g5 ∨ k = g6 ∨ k = g7) (.slice ad l.length cap) (.slice ad l.length cap) l w8 → w8.heap[D]? = some (.deferred (some [])) ∧ RowKit.Below w.heap.size w (w8.putObj D (.deferred none)) := fun w8 h => by
      have hk := hAI.keeps h w5.heap.size
      exact ⟨hk.1.same D _ hD hDD rfl, (hbelow w8 hk.2).trans (belowPut _ _ (by omega))⟩
    have hrI : rfI (cfQ (ksT Tryd.f17) (fillF (scrF 42 asK) u 0 (asW c b)) (r3 (.slice none 0 0) 0 (-1)) 3) = 0 := by kernel_rfl
    rw [hrI]
    have hV : asV c = ([], p, 28) := by unfold asV; rw [hq1]
    rw [hV]
    refine wp_exit ?_
    simp only [Exit.inBlock, if_true]
    refine atK IR fun IR => ?_
    refine goQ [bO .geq 3 (run_geqZ (x := (p : Nat)) (y := 0) (b := true) (by simp))] (MS.rs _ _ _ _ _ _) IR fun β8 a8 w8 I8 hb8 => ?_
    refine dwQ 4 [] (MS.rs _ _ _ _ _ _) onlyR.pan I8 fun a9 w9 I9 => ?_
    refine goQ [] (MS.rs _ _ _ _ _ _) I9 fun β9 a9 w9 I9 hb9 => ?_
    obtain ⟨hD8, hB8⟩ := hfin w9 I9.hJ
    exact atR ⟨rfl, retM (v := .tuple #[str [], Z (p : Nat), Z 28]) I9 hD8 ⟨rfl, hB8⟩⟩
end Go.Proofs.YtoceebhnhccfdaaDoor
