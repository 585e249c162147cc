/- What a walk holds: lists in blocks, rows of its own that grow; loops over a function whose iterator has cells of its own. -/
import Derived.Test.YtdlanihbpbfbcaaDoorKi
namespace Go.Proofs.YtdlanihbpbfbcaaDoor
open Go.RowKit
set_option linter.unusedVariables false
set_option maxRecDepth 100000
theorem Grow.mono {F G : Nat → Prop} {w w' : World} (h : Grow F w w') (k : ∀ i, G i → F i) : Grow G w w' := ⟨h.os, h.tape, h.output, h.size, fun i hi hG => h.block i hi (k i hG)⟩
theorem CellsAt.lt {w : World} {g o : Nat} {c : Value} {cs : List Value} (h : CellsAt w g o (c :: cs)) : g < w.heap.size := by
  have := h 0 c rfl
  unfold World.cell? at this
  cases hg : w.heap[g]? with
  | none => simp [hg] at this
  | some x => exact (Array.getElem?_eq_some_iff.1 hg).1
theorem CellsAt.keep {w w' : World} {g o : Nat} {cs : List Value} (h : CellsAt w g o cs) (hb : w'.heap[g]? = w.heap[g]?) : CellsAt w' g o cs := fun j c hc => by
  rw [← h j c hc]
  simp [World.cell?, hb]
theorem info_of {t : Nat} {z : Value} {s b : Nat} (h : (Tryd.prog.info? t).map (fun i => (i.zero, i.size, i.bytes)) = some (some z, s, b)) : ∃ i, Tryd.prog.info? t = some i ∧ i.zero = some z ∧ i.size = s ∧ i.bytes = b := by
  cases hq : Tryd.prog.info? t with
  | none => rw [hq] at h; simp at h
  | some i => rw [hq] at h; simp at h; exact ⟨i, rfl, h.1, h.2.1, h.2.2⟩
theorem neqT_run {a b : ByteArray} {q : Bool} (h : decide (a ≠ b) = q) (x y : Operand) (w : World) : (do eqGuard .neq 9 x y (.string a) (.string b); binOp .neq 9 (.string a) (.string b) : Sem Value).run Tryd.prog w = .ok (.bool q) w := by
  obtain ⟨la, rfl⟩ : ∃ l : List UInt8, a = ⟨l.toArray⟩ := ⟨a.data.toList, by simp⟩
  obtain ⟨lb, rfl⟩ : ∃ l : List UInt8, b = ⟨l.toArray⟩ := ⟨b.data.toList, by simp⟩
  have e : ((⟨la.toArray⟩ : ByteArray) = ⟨lb.toArray⟩) ↔ la = lb := ⟨fun e => by have := congrArg ByteArray.data e; simpa using this, fun e => by rw [e]⟩
  rw [← h]
  by_cases hx : la = lb
  · simp [go_sem, hx]
  · have h2 : ¬ ((⟨la.toArray⟩ : ByteArray) = ⟨lb.toArray⟩) := fun q => hx (e.1 q)
    simp [go_sem, hx]
theorem sum_take {α : Type} (f : α → Nat) (l : List α) {i : Nat} {x : α} (h : l[i]? = some x) : ((l.take (i + 1)).map f).sum = ((l.take i).map f).sum + f x := by
  rw [List.take_add_one, h, List.map_append, List.sum_append]
  simp
theorem sum_take_le {α : Type} (f : α → Nat) (l : List α) (i : Nat) : ((l.take i).map f).sum ≤ (l.map f).sum := by
  conv => rhs; rw [← List.take_append_drop i l, List.map_append, List.sum_append]
  omega
abbrev Cl (α : Type) : Type := (Nat → Prop) → World → α → List Value → Prop
def SlI {α : Type} (sz : Nat) (C : Cl α) (K : Nat → Prop) (w : World) (v : Value) (l : List α) : Prop :=
  ∃ ad cap, v = .slice ad l.length cap ∧ ∀ (i : Nat) (x : α), l[i]? = some x → ∃ g off cs, ad = some ⟨g, off, none⟩ ∧ K g ∧ CellsAt w g (off + i * sz) cs ∧ C K w x cs
structure Loc {α : Type} (C : Cl α) : Prop where
  keep : ∀ (K K' : Nat → Prop) (w w' : World) (x : α) (cs : List Value), (∀ k, K k → K' k ∧ w'.heap[k]? = w.heap[k]?) → C K w x cs → C K' w' x cs
theorem SlI.keep {α : Type} {sz : Nat} {C : Cl α} (hC : Loc C) {K K' : Nat → Prop} {w w' : World} {v : Value} {l : List α} (h : ∀ k, K k → K' k ∧ w'.heap[k]? = w.heap[k]?) (H : SlI sz C K w v l) : SlI sz C K' w' v l := by
  obtain ⟨ad, cap, hv, hm⟩ := H
  refine ⟨ad, cap, hv, fun i x hi => ?_⟩
  obtain ⟨g, off, cs, h1, h2, h3, h4⟩ := hm i x hi
  exact ⟨g, off, cs, h1, (h g h2).1, h3.keep (h g h2).2, hC.keep _ _ _ _ _ _ h h4⟩
theorem SlI.slice {α : Type} {sz : Nat} {C : Cl α} {K : Nat → Prop} {w : World} {v : Value} {l : List α} (H : SlI sz C K w v l) : ∃ ad cap, v = .slice ad l.length cap := by
  obtain ⟨ad, cap, hv, _⟩ := H
  exact ⟨ad, cap, hv⟩
theorem SlI.nil {α : Type} {sz : Nat} {C : Cl α} (K : Nat → Prop) (w : World) : SlI sz C K w (.slice none 0 0) [] := ⟨none, 0, rfl, fun i x h => by simp at h⟩
theorem SlI.below {α : Type} {sz : Nat} {C : Cl α} (hC : Loc C) {w w' : World} {v : Value} {l : List α} (H : SlI sz C (· < w.heap.size) w v l) (hb : Below w.heap.size w w') : SlI sz C (· < w'.heap.size) w' v l :=
  H.keep hC fun k hk => ⟨Nat.lt_of_lt_of_le hk hb.size, hb.block k hk⟩
abbrev noK : Nat → Prop := fun _ => False
section
variable {α : Type} {C : Cl α} {wE w : World} {e sz : Nat} {v : Value} {X : List (List Value)} {l : List α} {K : Nat → Prop}
theorem flat_sz {sz : Nat} {x : List Value} {j : Nat} {c : Value} (hc : x[j]? = some c) : ∀ {X : List (List Value)} {i : Nat}, (∀ y ∈ X, y.length = sz) → X[i]? = some x → X.flatten[i * sz + j]? = some c
  | [], i, _, h => by simp at h
  | y :: X, 0, hl, h => by
    simp only [List.getElem?_cons_zero, Option.some.injEq] at h
    subst h
    have hj : j < y.length := (List.getElem?_eq_some_iff.1 hc).1
    rw [List.flatten_cons, Nat.zero_mul, Nat.zero_add, List.getElem?_append_left hj]
    exact hc
  | y :: X, i + 1, hl, h => by
    have h1 := hl y List.mem_cons_self
    rw [List.flatten_cons, List.getElem?_append_right (by rw [h1, Nat.succ_mul]; omega), h1]
    have := flat_sz hc (X := X) (i := i) (fun y hy => hl y (List.mem_cons_of_mem _ hy)) (by simpa using h)
    rw [show (i + 1) * sz + j - sz = i * sz + j by rw [Nat.succ_mul]; omega]
    exact this
end
def loopsOf : Code → List Code
  | .seq x y => loopsOf x ++ loopsOf y
  | .block _ x => loopsOf x
  | .cond _ x y => loopsOf x ++ loopsOf y
  | .loop x => [x]
  | _ => []
def bodyLk (fn : Func) (k : Nat) : Code := ((loopsOf (fn.body.getD .skip))[k]?).getD .skip
theorem own_low {w : World} {b b' e s : Nat} {v : Value} {n : Nat} {xs : List Value} (h : w.ownsRow b e s v n xs) (hb : b' ≤ b) : w.ownsRow b' e s v n xs := by
  refine ⟨h.1, ?_⟩
  rcases h.2 with h2 | ⟨g, cap, cur, h1, h2, h3⟩
  · exact .inl h2
  · exact .inr ⟨g, cap, cur, h1, Nat.le_trans hb h2, h3⟩
/-- What is told by blocks alone. -/
structure Lf where
  p : (Nat → Prop) → World → Prop
  loc : ∀ (K K' : Nat → Prop) (w w' : World), (∀ k, K k → K' k ∧ w'.heap[k]? = w.heap[k]?) → p K w → p K' w'
/-- A row of one's own. -/
structure Ow where
  e : Nat
  sz : Nat
  v : Value
  X : List (List Value)
structure GS (w0 WR : World) (b : Nat) (Kp K : Nat → Prop) (Fs : List Lf) (O : List Ow) (w : World) : Prop where
  bw : Below w0.heap.size w0 w
  rs : WR.heap.size ≤ w.heap.size
  bs : b ≤ w.heap.size
  kk : ∀ k, Kp k → k < WR.heap.size
  nc : ∀ k, Kp k → w.heap[k]? = WR.heap[k]?
  kb : ∀ k, K k → k < w.heap.size
  lo : ∀ k, k < w0.heap.size → K k
  sl : ∀ f ∈ Fs, f.p K w
  ow : ∀ o ∈ O, w.ownsRow b o.e o.sz o.v o.X.length o.X.flatten
  on : ∀ o ∈ O, ∀ k, o.v.ownBlock = some k → ¬ K k ∧ ¬ Kp k
  ap : O.Pairwise fun o o' => ∀ k, o.v.ownBlock = some k → o'.v.ownBlock ≠ some k
def MB (O : List Ow) (k : Nat) : Prop := ∃ o ∈ O, o.v.ownBlock = some k
def GF (Kp K : Nat → Prop) (O : List Ow) (k : Nat) : Prop := K k ∨ MB O k ∨ Kp k
section
variable {w0 WR : World} {b : Nat} {Kp K : Nat → Prop} {Fs : List Lf} {O : List Ow} {w w' : World}
theorem GS.rsr (w0 WR : World) (b : Nat) (Kp K : Nat → Prop) (Fs : List Lf) (O : List Ow) : Rsrc (GS w0 WR b Kp K Fs O) (GF Kp K O) := by
  refine ⟨fun w w' h g => ?_, fun w k h hk => ?_⟩
  · exact ⟨⟨g.os.trans h.bw.os, g.tape.trans h.bw.tape, g.output.trans h.bw.output, Nat.le_trans h.bw.size g.size, fun k hk => (g.block k (Nat.lt_of_lt_of_le hk h.bw.size) (.inl (h.lo k hk))).trans (h.bw.block k hk)⟩, Nat.le_trans h.rs g.size, Nat.le_trans h.bs g.size, h.kk, fun k hk => (g.block k (Nat.lt_of_lt_of_le (h.kk k hk) h.rs) (.inr (.inr hk))).trans (h.nc k hk), fun k hk => Nat.lt_of_lt_of_le (h.kb k hk) g.size, h.lo, fun f hf => f.loc _ _ _ _ (fun k hk => ⟨hk, g.block k (h.kb k hk) (.inl hk)⟩) (h.sl f hf), fun o ho => owns_grow (h.ow o ho) g fun k hk => .inr (.inl ⟨o, ho, hk⟩), h.on, h.ap⟩
  · rcases hk with hk | ⟨o, ho, hk⟩ | hk
    · exact h.kb k hk
    · exact ((h.ow o ho).lt k hk).2
    · exact Nat.lt_of_lt_of_le (h.kk k hk) h.rs
theorem GS.below (h : GS w0 WR b Kp K Fs O w) (hb : Below w.heap.size w w') : GS w0 WR b Kp K Fs O w' := (GS.rsr w0 WR b Kp K Fs O).loc w w' h (Grow.of_below hb)
theorem GS.start (w : World) {Fs : List Lf} (h : ∀ f ∈ Fs, f.p (· < w.heap.size) w) : GS w w w.heap.size noK (· < w.heap.size) Fs [] w :=
  ⟨Below.refl _ _, Nat.le_refl _, Nat.le_refl _, fun _ h => h.elim, fun _ h => h.elim, fun _ h => h, fun _ h => h, h, fun o h => by (cases h), fun o h => by (cases h), List.Pairwise.nil⟩
/-- A fact by its place. -/
theorem GS.at (h : GS w0 WR b Kp K Fs O w) (i : Nat) {f : Lf} (hi : Fs[i]? = some f) : f.p (· < w.heap.size) w := f.loc _ _ _ _ (fun k hk => ⟨h.kb k hk, rfl⟩) (h.sl f (List.mem_of_getElem? hi))
theorem GS.atK (h : GS w0 WR b Kp K Fs O w) (i : Nat) {f : Lf} (hi : Fs[i]? = some f) : f.p K w := h.sl f (List.mem_of_getElem? hi)
theorem GS.nil (h : GS w0 WR b Kp K Fs O w) (e sz : Nat) : GS w0 WR b Kp K Fs (⟨e, sz, .slice none 0 0, []⟩ :: O) w :=
  ⟨h.bw, h.rs, h.bs, h.kk, h.nc, h.kb, h.lo, h.sl, fun o ho => by
    rcases List.mem_cons.1 ho with rfl | ho
    · exact World.ownsRow_nil _ _ _ _
    · exact h.ow o ho, fun o ho k hk => by
    rcases List.mem_cons.1 ho with rfl | ho
    · cases hk
    · exact h.on o ho k hk, List.pairwise_cons.2 ⟨fun o' _ k hk => (by cases hk), h.ap⟩⟩
theorem GF.nil {e sz k : Nat} (h : GF Kp K (⟨e, sz, .slice none 0 0, []⟩ :: O) k) : GF Kp K O k := by
  rcases h with h | ⟨o, ho, h⟩ | h
  · exact .inl h
  · rcases List.mem_cons.1 ho with rfl | ho
    · cases h
    · exact .inr (.inl ⟨o, ho, h⟩)
  · exact .inr (.inr h)
end
theorem SI.chg {J J' : World → Prop} {F F' : Nat → Prop} {ds : List Deferred} {β : Nat → Nat} {c : Cf} {a : Act} {w : World} (I : SI J F ds β c a w) (h : J' w) (hF : ∀ k, F' k → F k) : SI J' F' ds β c a w := ⟨I.fr, I.df, h, I.row, fun p hp hk => I.dis p hp (hF _ hk), I.lt, I.inj, I.ids⟩
section
variable {w0 WR : World} {b : Nat} {Kp K : Nat → Prop} {Fs : List Lf} {O : List Ow} {ds : List Deferred} {β : Nat → Nat} {c : Cf} {a : Act} {w w' : World}
theorem SI.nil (I : SI (GS w0 WR b Kp K Fs O) (GF Kp K O) ds β c a w) (e sz : Nat) : SI (GS w0 WR b Kp K Fs (⟨e, sz, .slice none 0 0, []⟩ :: O)) (GF Kp K (⟨e, sz, .slice none 0 0, []⟩ :: O)) ds β c a w := I.chg (I.hJ.nil e sz) fun k h => GF.nil h
/-- What a call has laid anew. -/
def NW (w : World) (G : List Lf) (w' : World) : Prop := Below w.heap.size w w' ∧ ∃ K1, (∀ k, K1 k → w.heap.size ≤ k ∧ k < w'.heap.size) ∧ ∀ f ∈ G, f.p K1 w'
theorem SI.gs {G : List Lf} (I : SI (GS w0 WR b Kp K Fs O) (GF Kp K O) ds β c a w) (h : NW w G w') (r : Value) : ∃ K', SI (GS w0 WR b Kp K' (G ++ Fs) O) (GF Kp K' O) ds β (nxtQ c r) (a.put (dstQ c) r) w' := by
  obtain ⟨hb, K1, h1, h2⟩ := h
  have hJ := I.hJ.below hb
  have J2 : GS w0 WR b Kp (fun k => K k ∨ K1 k) (G ++ Fs) O w' := by
    refine ⟨hJ.bw, hJ.rs, hJ.bs, hJ.kk, hJ.nc, fun k hk => ?_, fun k hk => .inl (hJ.lo k hk), fun f hf => ?_, hJ.ow, fun o ho k hk => ?_, hJ.ap⟩
    · rcases hk with hk | hk
      · exact hJ.kb k hk
      · exact (h1 k hk).2
    · rcases List.mem_append.1 hf with hf | hf
      · exact f.loc _ _ _ _ (fun k hk => ⟨.inr hk, rfl⟩) (h2 f hf)
      · exact f.loc _ _ _ _ (fun k hk => ⟨.inl hk, rfl⟩) (hJ.sl f hf)
    · refine ⟨fun hK => ?_, (I.hJ.on o ho k hk).2⟩
      rcases hK with hK | hK
      · exact (I.hJ.on o ho k hk).1 hK
      · have := ((I.hJ.ow o ho).lt k hk).2
        have := (h1 k hK).1
        omega
  have hF : ∀ k, k < w.heap.size → GF Kp (fun k => K k ∨ K1 k) O k → GF Kp K O k := fun k hk hF => by
    rcases hF with (hF | hF) | hF
    · exact .inl hF
    · have := (h1 k hF).1; omega
    · exact .inr hF
  exact ⟨_, I.moved (Grow.of_below hb) J2 hF r⟩
/-- One element behind a row of one's own. -/
theorem gapp {t e sz by_ : Nat} {z : Value} (ht : Tryd.prog.underlying t = some (.slice e)) (hinf : ∃ i, Tryd.prog.info? e = some i ∧ i.zero = some z ∧ i.size = sz ∧ i.bytes = by_) (hzs : z.cells.size = sz) (hsz : 0 < sz) (hby : by_ ≤ 1000)
    (A B : List Ow) {m cap : Nat} {ad : Option Addr} {X : List (List Value)} {cs : List Value} {ev : Value} {w6 : World} {Q : Exit → Act → World → Prop}
    (hbs : (Instr.buildSlice t 1 #[(0, ev)]).run Tryd.prog w6 = .ok (.slice (some ⟨w6.heap.size, 0, none⟩) 1 1) (w6.alloc (.cells cs.toArray e))) (hcs : cs.length = sz) (hone : ∀ u ∈ cs, u.oneCell' = true)
    (I6 : SI (GS w0 WR b Kp K Fs (A ++ ⟨e, sz, .slice ad m cap, X⟩ :: B)) (GF Kp K (A ++ ⟨e, sz, .slice ad m cap, X⟩ :: B)) ds β c a w6) (hXm : X.length = m) (hm : m < 100000000)
    (k : ∀ ad8 cap8 a8 w8, SI (GS w0 WR b Kp K Fs (A ++ ⟨e, sz, .slice ad8 (m + 1) cap8, X ++ [cs]⟩ :: B)) (GF Kp K (A ++ ⟨e, sz, .slice ad8 (m + 1) cap8, X ++ [cs]⟩ :: B)) ds β (nxtQ (nxtQ c (.slice (some ⟨w6.heap.size, 0, none⟩) 1 1)) (.slice ad8 (m + 1) cap8)) a8 w8 → At Tryd.prog Q (nxtQ (nxtQ c (.slice (some ⟨w6.heap.size, 0, none⟩) 1 1)) (.slice ad8 (m + 1) cap8)) a8 w8)
    (hc1 : bsQ c = some (t, 1, [(0, Sum.inl ev)]) := by kernel_rfl)
    (hc2 : bltQ (nxtQ c (.slice (some ⟨w6.heap.size, 0, none⟩) 1 1)) = some (.append, #[t, t], t, [Sum.inl (.slice ad m cap), Sum.inl (.slice (some ⟨w6.heap.size, 0, none⟩) 1 1)]) := by kernel_rfl) : At Tryd.prog Q c a w6 := by
  have hRs := GS.rsr w0 WR b Kp K Fs (A ++ ⟨e, sz, .slice ad m cap, X⟩ :: B)
  refine bslQ (ss := [(0, Sum.inl ev)]) I6 hbs ?_ hc1
  have I7 := I6.alloc hRs (.cells cs.toArray e) (.slice (some ⟨w6.heap.size, 0, none⟩) 1 1)
  obtain ⟨inf, hi1, hi2, hi3, hi4⟩ := hinf
  have hmem : (⟨e, sz, .slice ad m cap, X⟩ : Ow) ∈ A ++ ⟨e, sz, .slice ad m cap, X⟩ :: B := by simp
  have hown7 := I7.hJ.ow _ hmem
  simp only [] at hown7
  rw [hXm] at hown7
  obtain ⟨v', w8, hr8, ho8, hg8⟩ := app_els ht hi1 hi2 hi3 hi4 hzs hsz hby hown7 I7.hJ.bs ⟨w6.heap.size, 0, none⟩ cs (by rw [hcs, Nat.one_mul]) (alloc_cell w6 cs.toArray e) hone (by omega)
  obtain ⟨ad8, cap8, rfl⟩ := owns_slice ho8
  refine appQ (ss := [Sum.inl (.slice ad m cap), Sum.inl (.slice (some ⟨w6.heap.size, 0, none⟩) 1 1)]) I7 hr8 ?_ hc2
  have hXl1 : (X ++ [cs]).length = m + 1 := by simp [hXm]
  have hXf : X.flatten ++ cs = (X ++ [cs]).flatten := by simp
  rw [hXf] at ho8
  generalize w6.alloc (.cells cs.toArray e) = w7 at *
  have H := I7.hJ
  have hon := H.on _ hmem
  simp only [] at hon
  have hblk : ∀ k, k < w7.heap.size → (Value.slice ad m cap).ownBlock ≠ some k → w8.heap[k]? = w7.heap[k]? := fun k hk hn => hg8.gr.block k hk fun e => hn e.symm
  have hap := List.pairwise_append.1 H.ap
  have hapc := List.pairwise_cons.1 hap.2.1
  have hkeep : ∀ o, o ∈ A ∨ o ∈ B → w8.ownsRow b o.e o.sz o.v o.X.length o.X.flatten := fun o ho => by
    have hm2 : o ∈ A ++ ⟨e, sz, .slice ad m cap, X⟩ :: B := by
      rcases ho with ho | ho <;> simp [ho]
    refine owns_grow (F := fun k => (Value.slice ad m cap).ownBlock ≠ some k) (H.ow o hm2) ⟨hg8.gr.os, hg8.gr.tape, hg8.gr.output, hg8.gr.size, fun k hk hn => hblk k hk hn⟩ fun k hk hq => ?_
    rcases ho with ho | ho
    · exact hap.2.2 o ho _ List.mem_cons_self k hk hq
    · exact hapc.1 o ho k hq hk
  have J8 : GS w0 WR b Kp K Fs (A ++ ⟨e, sz, .slice ad8 (m + 1) cap8, X ++ [cs]⟩ :: B) w8 := by
    refine ⟨?_, Nat.le_trans H.rs hg8.gr.size, Nat.le_trans H.bs hg8.gr.size, H.kk, fun k hk => ?_, fun k hk => Nat.lt_of_lt_of_le (H.kb k hk) hg8.gr.size, H.lo, fun f hf => ?_, fun o ho => ?_, fun o ho k hk => ?_, ?_⟩
    · exact ⟨hg8.gr.os.trans H.bw.os, hg8.gr.tape.trans H.bw.tape, hg8.gr.output.trans H.bw.output, Nat.le_trans H.bw.size hg8.gr.size, fun k hk => (hblk k (Nat.lt_of_lt_of_le hk H.bw.size) fun e => (hon k e).1 (H.lo k hk)).trans (H.bw.block k hk)⟩
    · exact (hblk k (Nat.lt_of_lt_of_le (H.kk k hk) H.rs) fun e => (hon k e).2 hk).trans (H.nc k hk)
    · exact f.loc _ _ _ _ (fun k hk => ⟨hk, hblk k (H.kb k hk) fun e => (hon k e).1 hk⟩) (H.sl f hf)
    · rcases List.mem_append.1 ho with ho | ho
      · exact hkeep o (.inl ho)
      · rcases List.mem_cons.1 ho with rfl | ho
        · rw [hXl1]; exact ho8
        · exact hkeep o (.inr ho)
    · rcases List.mem_append.1 ho with ho | ho
      · exact H.on o (by simp [ho]) k hk
      · rcases List.mem_cons.1 ho with rfl | ho
        · rcases hg8.nb k hk with h4 | h4
          · exact hon k h4
          · exact ⟨fun q => by have := H.kb k q; omega, fun q => by have := H.kk k q; have := H.rs; omega⟩
        · exact H.on o (by simp [ho]) k hk
    · have hlt : ∀ o, o ∈ A ∨ o ∈ B → ∀ k, o.v.ownBlock = some k → k < w7.heap.size := fun o ho k hk => by
        have hm2 : o ∈ A ++ ⟨e, sz, .slice ad m cap, X⟩ :: B := by
          rcases ho with ho | ho <;> simp [ho]
        exact ((H.ow o hm2).lt k hk).2
      refine List.pairwise_append.2 ⟨hap.1, List.pairwise_cons.2 ⟨fun o ho k hk hq => ?_, hapc.2⟩, fun o ho o' ho' k hk hq => ?_⟩
      · rcases hg8.nb k hk with h4 | h4
        · exact hapc.1 o ho k h4 hq
        · have := hlt o (.inr ho) k hq; omega
      · rcases List.mem_cons.1 ho' with rfl | ho'
        · rcases hg8.nb k hq with h4 | h4
          · exact hap.2.2 o ho _ List.mem_cons_self k hk h4
          · have := hlt o (.inl ho) k hk; omega
        · exact hap.2.2 o ho o' (List.mem_cons_of_mem _ ho') k hk hq
  have hF : ∀ k, k < w7.heap.size → GF Kp K (A ++ ⟨e, sz, .slice ad8 (m + 1) cap8, X ++ [cs]⟩ :: B) k → GF Kp K (A ++ ⟨e, sz, .slice ad m cap, X⟩ :: B) k := fun k hk h => by
    rcases h with h | ⟨o, ho, h⟩ | h
    · exact .inl h
    · rcases List.mem_append.1 ho with ho | ho
      · exact .inr (.inl ⟨o, by simp [ho], h⟩)
      · rcases List.mem_cons.1 ho with rfl | ho
        · rcases hg8.nb k h with h4 | h4
          · exact .inr (.inl ⟨_, hmem, h4⟩)
          · omega
        · exact .inr (.inl ⟨o, by simp [ho], h⟩)
    · exact .inr (.inr h)
  exact k ad8 cap8 _ w8 (I7.moved ⟨hg8.gr.os, hg8.gr.tape, hg8.gr.output, hg8.gr.size, fun k hk hn => hblk k hk fun e => hn (.inr (.inl ⟨_, hmem, e⟩))⟩ J8 hF (.slice ad8 (m + 1) cap8))
end
/-- A row of one's own as a list. -/
theorem own_list {α : Type} {C : Cl α} (f : α → List Value) {w : World} {b e sz : Nat} {v : Value} {l : List α} (h : w.ownsRow b e sz v (l.map f).length (l.map f).flatten) (hf : ∀ x ∈ l, (f x).length = sz ∧ C (fun k => v.ownBlock = some k) w x (f x)) : SlI sz C (fun k => v.ownBlock = some k) w v l := by
  obtain ⟨ad, cap, rfl⟩ := owns_slice h
  refine ⟨ad, cap, by rw [List.length_map], fun i x hi => ?_⟩
  have hil := (List.getElem?_eq_some_iff.1 hi).1
  have hX : (l.map f)[i]? = some (f x) := by rw [List.getElem?_map, hi]; rfl
  have hlen : ∀ y ∈ l.map f, y.length = sz := fun y hy => by
    obtain ⟨x, hx, rfl⟩ := List.mem_map.1 hy
    exact (hf x hx).1
  rcases h.2 with ⟨hv, hn⟩ | ⟨g, cap', cur, hv, hb, hg, hnc, hcm, hcs, hct⟩
  · rw [List.length_map] at hn; omega
  · cases hv
    refine ⟨g, 0, f x, rfl, rfl, fun j c hc => ?_, (hf x (List.mem_of_getElem? hi)).2⟩
    have := h.cells (g := g) rfl (i * sz + j) c (flat_sz hc hlen hX)
    rw [add_off] at this
    rw [Nat.zero_add]
    rwa [Nat.zero_add] at this
theorem GS.fin0 {w WR w' : World} {b : Nat} {Kp K : Nat → Prop} {Fs : List Lf} {O : List Ow} (h : GS w WR b Kp K Fs O w') (hb : w.heap.size ≤ b) : GS w w w.heap.size noK (· < w.heap.size) [] O w' :=
  ⟨h.bw, h.bw.size, h.bw.size, fun _ h => h.elim, fun _ h => h.elim, fun k hk => Nat.lt_of_lt_of_le hk h.bw.size, fun _ h => h, fun f hf => by (cases hf), fun o ho => own_low (h.ow o ho) hb, fun o ho k hk => ⟨fun hq => by have := ((h.ow o ho).lt k hk).1; omega, fun h => h⟩, h.ap⟩
/-- What an iterator that hands out N members owes its caller, whose rounds change what lies below the iterator's own blocks, and blocks of M. -/
def SeqM (n : Nat) (P : Program) (g : Nat) (lb : Array Value) (encs : Nat → Array Value) (N : Nat) (X : World → Prop) : Prop :=
  ∀ (l : Nat) (J : Nat → (Nat → Prop) → World → Prop) (M0 : Nat → Prop) (W : World), (∀ i M A B, J i M A → Grow (fun k => k < W.heap.size ∨ M k) A B → J i M B) → (∀ i M A, J i M A → W.heap.size ≤ A.heap.size) → (∀ i M A k, J i M A → M k → k < A.heap.size) → (∀ i M A, J i M A → X A) →
    (∀ i M W1, i < N → J i M W1 → YieldAt Fence.wide (n - 1) P l (encs i) W1 fun e W' => e = .returned (.bool true) ∧ ∃ M', J (i + 1) M' W' ∧ Grow (fun k => ¬ (k < W.heap.size ∨ M k)) W1 W' ∧ ∀ k, M' k → M k ∨ W1.heap.size ≤ k) →
    J 0 M0 W → CallsIn Fence.wide n P g (#[.func (.yield l) #[] #[]] ++ lb) W fun e W' => (∃ v, e = .returned v) ∧ ∃ M, J N M W'
/-- What a round owes. -/
def postM (B : Nat) (I : Nat → (Nat → Prop) → World → Prop) (i : Nat) (M : Nat → Prop) (W1 W : World) : Exit → Act → World → Prop
  | .normal, _, W' => KeepsFrom B W W' ∧ ∃ M', I (i + 1) M' W' ∧ Grow (fun k => k < W1.heap.size ∧ ¬ (k < B + 2 ∨ M k)) W W' ∧ ∀ k, M' k → M k ∨ W1.heap.size ≤ k
  | _, _, _ => False
theorem range_m {P : Program} {n : Nat} {g : Operand} {ps : Array Tmp} {assign body : Code} {Q : Exit → Act → World → Prop} {a : Act} {w : World}
    (h1 : 1 ≤ n) {gf : Nat} {lb : Array Value} (hg : a.eval g = .func (.func gf) #[] lb) (eg : ∀ args w, (callFunc gf args).run P w = .ok (.enter gf args) w)
    {encs : Nat → Array Value} {N : Nat} {X : World → Prop} (hseq : SeqM (n - 1) P gf lb encs N X)
    (hps : ∀ i, (encs i).size = ps.size)
    (I : Nat → (Nat → Prop) → World → Prop) (M0 : Nat → Prop) (hX : ∀ i M A, I i M A → X A) (hM : ∀ i M A k, I i M A → M k → w.heap.size + 2 ≤ k ∧ k < A.heap.size)
    (hI : ∀ i M A B, I i M A → RowKit.Below w.heap.size A B → (∀ (k : Nat) (o : Obj), M k → A.heap[k]? = some o → o.isCells = true → B.heap[k]? = some o) → I i M B) (h0 : ∀ W1, RowKit.Below w.heap.size w W1 → W1.heap.size = w.heap.size + 2 → I 0 M0 W1)
    (Ax : Nat → (Nat → Prop) → World → Act → World → Prop) (hAx : ∀ i M W1 a' W l o o', w.heap.size ≤ l → l < w.heap.size + 2 → W.heap[l]? = some o → o.isCells = false → Ax i M W1 a' W → Ax i M W1 a' (W.putObj l o'))
    (hassign : ∀ (l i : Nat) (M : Nat → Prop) (W : World) (K : Act → World → Prop), i < N → I i M W → w.heap.size + 2 ≤ W.heap.size → (∀ a' W', RowKit.Below W.heap.size W W' → Ax i M W a' W' → K a' W') →
      assign.wpIn (Fence.wide.inRound l) (n - 1 - 1) P (Exit.then K (fun _ _ _ => False)) { tmps := (ps.zip (encs i)).foldl (fun t (p, v) => t.setIfInBounds p v) a.tmps, defers := [] } W)
    (hbody : ∀ (l i : Nat) (M : Nat → Prop) (W1 : World) (a' : Act) (W : World), i < N → w.heap.size + 2 ≤ W1.heap.size → W1.heap.size ≤ W.heap.size → Ax i M W1 a' W → body.wpIn (Fence.wide.inRound l) (n - 1 - 1) P (postM w.heap.size I i M W1 W) a' W)
    (hdone : ∀ (D : Nat) (M : Nat → Prop) (W : World), w.heap.size ≤ D → I N M W → W.heap[D]? = some (.deferred (some [])) → Q .normal { a with defers := { target := .collected D, args := #[] } :: a.defers } W) :
    (Code.rangeFunc g ps assign body).wpIn Fence.wide n P Q a w := by
  refine wpIn_rangeFunc ?_
  intro fn hfn
  rw [Fence.wide_round]
  obtain ⟨rec, hrec⟩ : ∃ rec : LoopState → Option Code → Loop, rec = fun st pe => { state := st, pending := pe, fn, tmps := a.tmps, params := ps, assign, body, defers := w.heap.size } := ⟨_, rfl⟩
  obtain ⟨W1, hW1⟩ : ∃ W1, (w.alloc (.deferred (some []))).alloc (.loop (rec .ready none)) = W1 := ⟨_, rfl⟩
  have hs1 : W1.heap.size = w.heap.size + 2 := by rw [← hW1]; simp
  have hL1 : W1.heap[w.heap.size + 1]? = some (.loop (rec .ready none)) := by
    rw [← hW1]; have := World.alloc_heap_new (w.alloc (.deferred (some []))) (.loop (rec .ready none)); rwa [World.size_alloc] at this
  have hK1 : W1.heap[w.heap.size]? = some (.deferred (some [])) := by
    rw [← hW1]; exact (Below.heap_alloc _ _ _ (by simp)).trans (World.alloc_heap_new w _)
  have hb1 : RowKit.Below w.heap.size w W1 := by
    rw [← hW1]; exact ((RowKit.Below.refl _ w).alloc (Nat.le_refl _) _).alloc (by simp) _
  have hput : ∀ {i M A} (l : Nat) (o o' : Obj), w.heap.size ≤ l → A.heap[l]? = some o → o.isCells = false → I i M A → I i M (A.putObj l o') := fun {i M A} l o o' hl ho hc hi =>
    hI i M A _ hi (belowPut A o' hl) fun k q hk hq hqc => by
      refine (World.putObj_heap_other ?_).trans hq
      rintro rfl
      rw [ho] at hq; cases hq; rw [hc] at hqc; cases hqc
  refine ⟨w.heap.size + 1, [{ target := .collected w.heap.size, args := #[] }], W1, { target := .fn (.func gf) lb, args := #[.func (.yield (w.heap.size + 1)) #[] #[]] }, W1, gf,
    #[.func (.yield (w.heap.size + 1)) #[] #[]] ++ lb, W1, ?_, ?_, ?_, ?_, fun _ => h1, ?_⟩
  · rw [← hW1, hrec]; exact run_enterLoop_outer _ _ _ _ _
  · simp only [resolve, hg]
    simp [go_sem]
  · intro f' _; exact trivial
  · simp [invoke, go_sem, eg]
  · refine (hseq (w.heap.size + 1)
      (fun i M W => I i M W ∧ W.heap[w.heap.size + 1]? = some (.loop (rec .ready none)) ∧ W.heap[w.heap.size]? = some (.deferred (some [])))
      M0 W1 (fun i M A B hs hg => by
        rw [hs1] at hg
        have q := (Array.getElem?_eq_some_iff.1 hs.2.1).1
        refine ⟨hI i M A B hs.1 ⟨hg.os, hg.tape, hg.output, hg.size, fun k hk => hg.block k (by omega) (.inl (by omega))⟩ (fun k o hk ho _ => (hg.block k (hM i M A k hs.1 hk).2 (.inr hk)).trans ho), (hg.block _ q (.inl (by omega))).trans hs.2.1, (hg.block _ (by omega) (.inl (by omega))).trans hs.2.2⟩)
      (fun i M A hs => by
        have q := (Array.getElem?_eq_some_iff.1 hs.2.1).1
        omega) (fun i M A k hs hk => (hM i M A k hs.1 hk).2) (fun i M A h => hX i M A h.1) ?_ ⟨h0 W1 hb1 hs1, hL1, hK1⟩).mono ?_
    · rintro i M W hiN ⟨hi, hl, hk⟩
      have hy := run_yield (P := P) (args := encs i) hl (by rw [hrec]; exact hps i)
      rw [hrec] at hy
      have hWs : w.heap.size + 2 ≤ W.heap.size := (Array.getElem?_eq_some_iff.1 hl).1
      refine ⟨fn, _, assign, body, hy, roundIn_of_wpIn hfn (hassign _ i M W _ hiN hi hWs ?_)⟩
      clear hy
      intro a' Wa hba hax
      replace hl := (hba.block _ (by omega)).trans hl
      replace hk := (hba.block _ (by omega)).trans hk
      have hlt : w.heap.size + 1 < Wa.heap.size := (Array.getElem?_eq_some_iff.1 hl).1
      refine ⟨_, run_beginRound hl (by rw [hrec]), ?_⟩
      have hl2 : (Wa.putObj (w.heap.size + 1) (.loop { rec .ready none with state := .busy })).heap[w.heap.size + 1]? = some (.loop { rec .ready none with state := .busy }) := World.putObj_heap_same hlt
      have hk2 : (Wa.putObj (w.heap.size + 1) (.loop { rec .ready none with state := .busy })).heap[w.heap.size]? = some (.deferred (some [])) := (World.putObj_heap_other (by omega)).trans hk
      have hzp : (Wa.putObj (w.heap.size + 1) (.loop { rec .ready none with state := .busy })).heap.size = Wa.heap.size := by simp [World.putObj]
      refine wpIn_mono (hbody _ i M W a' _ hiN hWs (by rw [hzp]; exact hba.size) (hAx i M W a' _ _ _ _ (by omega) (by omega) hl rfl hax)) ?_
      rintro e a3 W3 hp
      cases e with
      | normal =>
        obtain ⟨hk3, M', hi3, hg3, hm3⟩ := hp
        have hl3 := hk3.same _ _ (by omega) hl2 rfl
        have hr := run_endRound (P := P) none hl3
        rw [hrec] at hr hl3
        have hq := hl3
        refine ⟨_, _, hr, rfl, M', ⟨hput _ _ _ (by omega) hq rfl hi3, ?_, ?_⟩, ?_, hm3⟩
        · rw [hrec]; exact World.putObj_heap_same (Array.getElem?_eq_some_iff.1 hl3).1
        · exact (World.putObj_heap_other (by omega)).trans (hk3.same _ _ (Nat.le_refl _) hk2 rfl)
        · rw [hs1]
          refine ⟨hg3.os.trans hba.os, hg3.tape.trans hba.tape, hg3.output.trans hba.output, ?_, fun k hk hn => ?_⟩
          · have h3 := hg3.size
            rw [hzp] at h3
            have h4 := hba.size
            simp only [World.putObj, Array.size_setIfInBounds]
            omega
          · have hkn : ¬ k = w.heap.size + 1 := fun e => hn (.inl (by omega))
            rw [World.putObj_heap_other hkn, hg3.block k (by rw [hzp]; exact Nat.lt_of_lt_of_le hk hba.size) ⟨hk, hn⟩, World.putObj_heap_other hkn]
            exact hba.block k hk
      | ret => exact hp.elim
      | exit id => exact hp.elim
      | goto t => exact hp.elim
      | panic ch => exact hp.elim
      | outgrown => exact hp.elim
    · rintro e W2 ⟨⟨v, rfl⟩, M, hi, hl, hk⟩
      exact ⟨none, _, by have := run_endLoop (P := P) hl (by rw [hrec]; simp); rw [hrec] at this; exact this, hdone _ M _ (Nat.le_refl _) (hput _ _ _ (by omega) hl rfl hi) ((World.putObj_heap_other (by omega)).trans hk)⟩
theorem own_cells {w : World} {b e sz : Nat} {v : Value} {n : Nat} {xs : List Value} (h : w.ownsRow b e sz v n xs) {k : Nat} (hk : v.ownBlock = some k) : ∃ o, w.heap[k]? = some o ∧ o.isCells = true := by
  rcases h.2 with ⟨rfl, _⟩ | ⟨g, cap, cur, rfl, hb, hg, _⟩
  · cases hk
  · simp only [Value.ownBlock, Option.some.injEq] at hk
    subst hk
    exact ⟨_, hg, rfl⟩
theorem row_cells {w : World} {g : Nat} {r : Array Value} (h : HasRow w g r) : ∃ o, w.heap[g]? = some o ∧ o.isCells = true := by
  obtain ⟨t, h⟩ := h
  exact ⟨_, h, rfl⟩
section
variable {w0 : World} {b B : Nat} {K : Nat → Prop} {Fs : List Lf} {O : List Ow} {ds : List Deferred} {β : Nat → Nat} {c : Cf} {a : Act} {W W' : World}
theorem SI.tr (I : SI (GS w0 w0 b noK K Fs O) (GF noK K O) ds β c a W) (hb : RowKit.Below B W W') (hw0 : w0.heap.size ≤ B) (hK : ∀ k, K k → k < B) (ho : ∀ k, MB O k → W'.heap[k]? = W.heap[k]?) (hr : ∀ p ∈ c.rows, W'.heap[β p.1]? = W.heap[β p.1]?) : SI (GS w0 w0 b noK K Fs O) (GF noK K O) ds β c a W' := by
  have H := I.hJ
  refine ⟨I.fr, I.df, ⟨H.bw.trans (hb.mono hw0), Nat.le_trans H.rs hb.size, Nat.le_trans H.bs hb.size, H.kk, fun k h => h.elim, fun k hk => Nat.lt_of_lt_of_le (H.kb k hk) hb.size, H.lo, fun f hf => f.loc _ _ _ _ (fun k hk => ⟨hk, hb.block k (hK k hk)⟩) (H.sl f hf), fun o hm => ?_, H.on, H.ap⟩, fun p hp => ?_, I.dis, I.lt, I.inj, I.ids⟩
  · exact owns_grow (F := MB O) (H.ow o hm) ⟨hb.os, hb.tape, hb.output, hb.size, fun k _ hk => ho k hk⟩ fun k hk => ⟨o, hm, hk⟩
  · obtain ⟨t, ht⟩ := I.row p hp
    exact ⟨t, (hr p hp).trans ht⟩
end
section
variable {P : Program} {ds : List Deferred} {β : Nat → Nat} {c : Cf} {a : Act} {w : World} {Q : Exit → Act → World → Prop}
/-- A loop over a function in a walk. -/
theorem rangeG (n : Nat) (h1 : 1 ≤ n) {gf : Nat} {fn : Func} {lb : Array Value} {encs : Nat → Array Value} {N : Nat} {X : World → Prop} (hf : P.funcs[gf]? = some fn) (hseq : SeqM (n - 1) P gf lb encs N X)
    {w0 : World} {K : Nat → Prop} {Fs : List Lf} {σ : Type} (O : Nat → σ → List Ow) (rws : Nat → σ → Rows) (s0 : σ)
    (I : SI (GS w0 w0 w0.heap.size noK K Fs (O 0 s0)) (GF noK K (O 0 s0)) ds β c a w) (hO0 : ∀ o ∈ O 0 s0, o.v = .slice none 0 0 ∧ o.X = []) (hids : ∀ i s, (rws i s).map (·.1) = (rws 0 s0).map (·.1))
    (hX : ∀ i s W, SI (GS w0 w0 (w.heap.size + 2) noK K Fs (O i s)) (GF noK K (O i s)) ds β (cfQ [] c.tm (rws i s) c.nx) a W → X W)
    (hps : ∀ i, (encs i).size = (rfP c).size) (tmA : Nat → Vs) (rwA : Nat → Rows) (nxA : Nat) (hnx : c.nx ≤ nxA)
    (hassign : ∀ (l i : Nat) (W : World) (K' : Act → World → Prop) (a' : Act), i < N → SI (RowKit.Below W.heap.size W) (· < W.heap.size) [] β (cfQ [] (parV (rfP c).toList (encs i).toList c.tm) [] c.nx) a' W → (∀ β1 a1 w1 cA, SI (RowKit.Below W.heap.size W) (· < W.heap.size) [] β1 cA a1 w1 → Agree c.nx β β1 → cA.tm = tmA i → cA.rows = rwA i → cA.nx = nxA → K' a1 w1) →
      (rfA c).wpIn (Fence.wide.inRound l) (n - 1 - 1) P (Exit.then K' (fun _ _ _ => False)) a' W)
    (hbody : ∀ (l i : Nat) (s : σ) (β1 : Nat → Nat) (a1 : Act) (WR : World) (Kp : Nat → Prop), i < N → SI (GS w0 WR (w.heap.size + 2) Kp K Fs (O i s)) (GF Kp K (O i s)) [] β1 (cfQ [] (tmA i) (rwA i ++ rws i s) nxA) a1 WR →
      (rfB c).wpIn (Fence.wide.inRound l) (n - 1 - 1) P (fun e a' w' => e = .normal ∧ ∃ s' β2 c2, Agree c.nx β1 β2 ∧ SI (GS w0 WR (w.heap.size + 2) Kp K Fs (O (i + 1) s')) (GF Kp K (O (i + 1) s')) [] β2 c2 a' w' ∧ (rws (i + 1) s').map (fun p => rowOf c2.rows p.1) = (rws (i + 1) s').map (fun p => some p.2)) a1 WR)
    (hdone : ∀ (D : Nat) (W : World) (a' : Act) (s : σ), w.heap.size ≤ D → W.heap[D]? = some (.deferred (some [])) → SI (GS w0 W (w.heap.size + 2) (fun k => k = D) K Fs (O N s)) (GF (fun k => k = D) K (O N s)) ({ target := .collected D, args := #[] } :: ds) β (cfQ (rfK c) c.tm (rws N s) c.nx) a' W → QK P Q (rfK c) .normal a' W)
    (hr0 : (rws 0 s0).map (fun p => rowOf c.rows p.1) = (rws 0 s0).map (fun p => some p.2) := by kernel_rfl)
    (hg : (rfQ c).bind (fun r => evQ c.tm r.2.1) = some (Sum.inl (.func (.func gf) #[] lb)) := by kernel_rfl) (hfb : fn.body.isNone = false := by kernel_rfl) (hfn : (fn.name == "runtime.NumGoroutine") = false := by kernel_rfl) : At P Q c a w := by
  have look : ∀ {rs0 rs1 : Rows}, rs0.map (fun p => rowOf rs1 p.1) = rs0.map (fun p => some p.2) → ∀ p ∈ rs0, p ∈ rs1 := fun {rs0 rs1} h p hp => by
    obtain ⟨i, hi⟩ := List.mem_iff_getElem?.1 hp
    have h5 := congrArg (·[i]?) h
    simp only [List.getElem?_map, hi, Option.map_some, Option.some.injEq] at h5
    exact rowOf_mem h5
  have hw0 : w0.heap.size ≤ w.heap.size := I.hJ.bw.size
  have hKw : ∀ k, K k → k < w.heap.size := I.hJ.kb
  have hid : ∀ i s, ∀ p ∈ rws i s, ∃ q ∈ c.rows, q.1 = p.1 := fun i s p hp => by
    have h2 : p.1 ∈ (rws i s).map (·.1) := List.mem_map.2 ⟨p, hp, rfl⟩
    rw [hids] at h2
    obtain ⟨q, hq, he⟩ := List.mem_map.1 h2
    exact ⟨q, look hr0 q hq, he⟩
  have hβ : ∀ i s, ∀ p ∈ rws i s, β p.1 < w.heap.size ∧ p.1 < c.nx := fun i s p hp => by
    obtain ⟨q, hq, he⟩ := hid i s p hp
    rw [← he]
    exact ⟨(I.row q hq).lt, I.lt q hq⟩
  cases hq : rfQ c with
  | none => rw [hq] at hg; cases hg
  | some r =>
    obtain ⟨id, g, ps, x, y, ks⟩ := r
    unfold rfK at hdone
    unfold rfP at hps
    unfold rfP rfA at hassign
    unfold rfB at hbody
    simp only [hq, Option.map_some, Option.getD_some, Option.bind_some] at hg hps hassign hbody hdone
    unfold rfQ at hq
    split at hq
    · next id' g' ps' x' y' ks' hd hr hk =>
      cases hq
      refine ⟨?_⟩
      unfold AtD
      rw [hd, hr, hk]
      show (Code.block id (.rangeFunc g ps x y)).wp P (QK P Q ks) a w
      refine (wpIn_wide (n := n)).1 (wpIn_block ?_)
      have hge : a.eval g = .func (.func gf) #[] lb := evQ_ok I.fr hg
      obtain ⟨bd, hbd⟩ : ∃ bd, fn.body = some bd := by
        cases hfx : fn.body with
        | none => rw [hfx] at hfb; cases hfb
        | some x => exact ⟨x, rfl⟩
      let St : Nat → (Nat → Prop) → World → Prop := fun i M W => ∃ s, M = MB (O i s) ∧ SI (GS w0 w0 (w.heap.size + 2) noK K Fs (O i s)) (GF noK K (O i s)) ds β (cfQ [] c.tm (rws i s) c.nx) a W
      refine range_m h1 hge (enters_of hf hfn hbd) hseq hps St (MB (O 0 s0)) ?_ ?_ ?_ ?_
        (fun i M W1 a' W => ∃ s β1, M = MB (O i s) ∧ Agree c.nx β β1 ∧ SI (GS w0 w0 (w.heap.size + 2) noK K Fs (O i s)) (GF noK K (O i s)) [] β1 (cfQ [] (tmA i) (rwA i ++ rws i s) nxA) a' W ∧ ∀ p ∈ rwA i, W1.heap.size ≤ β1 p.1) ?_ ?_ ?_ ?_
      · rintro i M A ⟨s, rfl, Is⟩
        exact hX i s A Is
      · rintro i M A k ⟨s, rfl, Is⟩ ⟨o, ho, hk⟩
        exact (Is.hJ.ow o ho).lt k hk
      · rintro i M A B ⟨s, rfl, Is⟩ hb hm
        refine ⟨s, rfl, Is.tr hb hw0 hKw (fun k hk => ?_) fun p hp => hb.block _ (hβ i s p hp).1⟩
        obtain ⟨o, ho, hk'⟩ := hk
        obtain ⟨q, hq1, hq2⟩ := own_cells (Is.hJ.ow o ho) hk'
        exact (hm k q ⟨o, ho, hk'⟩ hq1 hq2).trans hq1.symm
      · intro W1 hb hs
        have H := I.hJ
        refine ⟨s0, rfl, I.fr, I.df, ⟨H.bw.trans (hb.mono hw0), Nat.le_trans H.rs hb.size, by omega, fun k h => h.elim, fun k h => h.elim, fun k hk => Nat.lt_of_lt_of_le (H.kb k hk) hb.size, H.lo, fun f hf => f.loc _ _ _ _ (fun k hk => ⟨hk, hb.block k (hKw k hk)⟩) (H.sl f hf), fun o ho => ?_, H.on, H.ap⟩, fun p hp => ?_, fun p hp => I.dis p (look hr0 p hp), fun p hp => I.lt p (look hr0 p hp), fun p hp q hq => I.inj p (look hr0 p hp) q (look hr0 q hq), I.ids⟩
        · obtain ⟨e1, e2⟩ := hO0 o ho
          rw [e1, e2]
          exact World.ownsRow_nil _ _ _ _
        · obtain ⟨t, ht⟩ := I.row p (look hr0 p hp)
          exact ⟨t, (hb.block _ (hβ 0 s0 p hp).1).trans ht⟩
      · rintro i M W1 a' W l o o' hl1 hl2 ho hoc ⟨s, β1, rfl, hag, Is, hnew⟩
        have hne : ∀ (k : Nat), (∃ q : Obj, W.heap[k]? = some q ∧ q.isCells = true) → (W.putObj l o').heap[k]? = W.heap[k]? := fun k ⟨q, hq1, hq2⟩ => World.putObj_heap_other fun e => by
          subst e
          rw [ho] at hq1; cases hq1; rw [hoc] at hq2; cases hq2
        exact ⟨s, β1, rfl, hag, Is.tr (belowPut W o' hl1) hw0 hKw (fun k ⟨o, ho, hk⟩ => hne k (own_cells (Is.hJ.ow o ho) hk)) (fun p hp => hne _ (row_cells (Is.row p hp))), hnew⟩
      · rintro l i M W K' hi ⟨s, rfl, Is⟩ hsW hK'
        refine hassign l i W K' _ hi ⟨?_, rfl, RowKit.Below.refl _ _, fun p hp => (by cases hp), fun p hp => (by cases hp), fun p hp => (by cases hp), fun p hp => (by cases hp), ?_⟩ fun β1 a1 w1 cA IA hag e1 e2 e3 => ?_
        · have := parV_fr (β := β) (ps.toList.zip (encs i).toList) a.tmps c.tm I.fr
          rw [← Array.foldl_toList, Array.toList_zip]
          exact this
        · exact parV_ids _ _ I.ids
        · have hb := IA.hJ
          have hlt : ∀ k, GF noK K (O i s) k → k < W.heap.size := fun k hk => (GS.rsr w0 w0 (w.heap.size + 2) noK K Fs (O i s)).lt W k Is.hJ hk
          have Is1 := Is.tr (hb.mono (by omega)) hw0 hKw (fun k hk => hb.block k (hlt k (.inr (.inl hk)))) (fun p hp => hb.block _ (Is.row p hp).lt)
          have hge : ∀ p ∈ rwA i, W.heap.size ≤ β1 p.1 := fun p hp => Nat.le_of_not_lt fun h => IA.dis p (by rw [e2]; exact hp) h
          refine hK' a1 w1 hb ⟨s, β1, rfl, hag, ⟨?_, IA.df, Is1.hJ, fun p hp => ?_, fun p hp => ?_, fun p hp => ?_, fun p hp q hq hne => ?_, ?_⟩, hge⟩
          · rw [IA.fr, e1]
          · rcases List.mem_append.1 hp with hp | hp
            · exact IA.row p (by rw [e2]; exact hp)
            · rw [hag p.1 (hβ i s p hp).2]; exact Is1.row p hp
          · rcases List.mem_append.1 hp with hp | hp
            · intro h
              have := hlt _ h
              have := hge p hp
              omega
            · rw [hag p.1 (hβ i s p hp).2]; exact Is1.dis p hp
          · rcases List.mem_append.1 hp with hp | hp
            · have := IA.lt p (by rw [e2]; exact hp)
              rw [e3] at this
              exact this
            · exact Nat.lt_of_lt_of_le (hβ i s p hp).2 hnx
          · rcases List.mem_append.1 hp with hp | hp <;> rcases List.mem_append.1 hq with hq | hq
            · exact IA.inj p (by rw [e2]; exact hp) q (by rw [e2]; exact hq) hne
            · have h2 := hge p hp
              have h3 := (Is.row q hq).lt
              rw [hag q.1 (hβ i s q hq).2]
              omega
            · have h2 := hge q hq
              have h3 := (Is.row p hp).lt
              rw [hag p.1 (hβ i s p hp).2]
              omega
            · rw [hag p.1 (hβ i s p hp).2, hag q.1 (hβ i s q hq).2]
              exact Is.inj p hp q hq hne
          · have := IA.ids
            rw [e1, e3] at this
            exact this
      · rintro l i M W1 a' W hi hW1 hWW ⟨s, β1, rfl, hag, Is, hnew⟩
        have H := Is.hJ
        let Kp : Nat → Prop := fun k => (∃ o : Obj, W.heap[k]? = some o ∧ o.isCells = false) ∨ (k < W1.heap.size ∧ ¬ (k < w.heap.size + 2 ∨ MB (O i s) k))
        have hnc : ∀ (k : Nat), (∃ q : Obj, W.heap[k]? = some q ∧ q.isCells = true) → ¬ ∃ o : Obj, W.heap[k]? = some o ∧ o.isCells = false := by
          rintro k ⟨q, hq1, hq2⟩ ⟨o, ho1, ho2⟩
          rw [hq1] at ho1; cases ho1; rw [hq2] at ho2; cases ho2
        have hkk : ∀ k, Kp k → k < W.heap.size := fun k hk => by
          rcases hk with ⟨o, ho, _⟩ | hk
          · exact (Array.getElem?_eq_some_iff.1 ho).1
          · exact Nat.lt_of_lt_of_le hk.1 hWW
        have J2 : GS w0 W (w.heap.size + 2) Kp K Fs (O i s) W := ⟨H.bw, Nat.le_refl _, H.bs, hkk, fun _ _ => rfl, H.kb, H.lo, H.sl, H.ow, fun o ho k hk => ⟨(H.on o ho k hk).1, fun hq => by
          rcases hq with hq | hq
          · exact hnc k (own_cells (H.ow o ho) hk) hq
          · exact hq.2 (.inr ⟨o, ho, hk⟩)⟩, H.ap⟩
        have I2 : SI (GS w0 W (w.heap.size + 2) Kp K Fs (O i s)) (GF Kp K (O i s)) [] β1 (cfQ [] (tmA i) (rwA i ++ rws i s) nxA) a' W := ⟨Is.fr, Is.df, J2, Is.row, fun p hp hk => by
          rcases hk with hk | hk | hk | hk
          · exact Is.dis p hp (.inl hk)
          · exact Is.dis p hp (.inr (.inl hk))
          · exact hnc _ (row_cells (Is.row p hp)) hk
          · rcases List.mem_append.1 hp with hp | hp
            · have := hnew p hp
              omega
            · refine hk.2 (.inl ?_)
              rw [hag p.1 (hβ i s p hp).2]
              have := (hβ i s p hp).1
              omega, Is.lt, Is.inj, Is.ids⟩
        refine wpIn_mono (hbody l i s β1 a' W Kp hi I2) ?_
        rintro e a3 W3 ⟨rfl, s', β2, c2, hag2, I3, hrow⟩
        have H3 := I3.hJ
        have hb2 : ∀ p ∈ rws (i + 1) s', β2 p.1 = β p.1 := fun p hp => by
          have := (hβ (i + 1) s' p hp).2
          rw [hag2 p.1 this, hag p.1 this]
        refine ⟨⟨H3.rs, fun k o _ ho hc => (H3.nc k (.inl ⟨o, ho, hc⟩)).trans ho⟩, MB (O (i + 1) s'), ⟨s', rfl, I.fr, I.df, ⟨H3.bw, H3.bw.size, H3.bs, fun k h => h.elim, fun k h => h.elim, H3.kb, H3.lo, H3.sl, H3.ow, fun o ho k hk => ⟨(H3.on o ho k hk).1, fun h => h⟩, H3.ap⟩, fun p hp => ?_, fun p hp hk => ?_, fun p hp => (hβ (i + 1) s' p hp).2, fun p hp q hq hne => ?_, I.ids⟩, ⟨?_, ?_, ?_, H3.rs, fun k _ hk => H3.nc k (.inr hk)⟩, fun k hk => ?_⟩
        · have := I3.row p (look hrow p hp)
          rwa [hb2 p hp] at this
        · refine I3.dis p (look hrow p hp) ?_
          rw [hb2 p hp]
          rcases hk with hk | hk | hk
          · exact .inl hk
          · exact .inr (.inl hk)
          · exact hk.elim
        · have := I3.inj p (look hrow p hp) q (look hrow q hq) hne
          rwa [hb2 p hp, hb2 q hq] at this
        · exact H3.bw.os.trans H.bw.os.symm
        · exact H3.bw.tape.trans H.bw.tape.symm
        · exact H3.bw.output.trans H.bw.output.symm
        · obtain ⟨o, ho, hk'⟩ := hk
          have h2 := ((H3.ow o ho).lt k hk').1
          have h3 := (H3.on o ho k hk').2
          by_cases h4 : k < W1.heap.size
          · by_cases h5 : MB (O i s) k
            · exact .inl h5
            · exact absurd (.inr ⟨h4, fun h => h.elim (fun h => by omega) h5⟩) h3
          · exact .inr (by omega)
      · rintro D M W hD ⟨s, rfl, Is⟩ hDD
        have H := Is.hJ
        have hnD : ∀ (k : Nat), (∃ q : Obj, W.heap[k]? = some q ∧ q.isCells = true) → ¬ k = D := fun k ⟨q, hq1, hq2⟩ e => by
          subst e
          rw [hDD] at hq1; cases hq1; cases hq2
        refine hdone D W _ s hD hDD ⟨I.fr, by rw [I.df], ⟨H.bw, Nat.le_refl _, H.bs, fun k hk => by rw [hk]; exact (Array.getElem?_eq_some_iff.1 hDD).1, fun _ _ => rfl, H.kb, H.lo, H.sl, H.ow, fun o ho k hk => ⟨(H.on o ho k hk).1, hnD k (own_cells (H.ow o ho) hk)⟩, H.ap⟩, Is.row, fun p hp hk => ?_, Is.lt, Is.inj, Is.ids⟩
        rcases hk with hk | hk | hk
        · exact Is.dis p hp (.inl hk)
        · exact Is.dis p hp (.inr (.inl hk))
        · exact hnD _ (row_cells (Is.row p hp)) hk
    · cases hq
end
section
variable {P : Program} {J : World → Prop} {F : Nat → Prop} {ds : List Deferred} {β : Nat → Nat} {c : Cf} {a : Act} {w : World} {Q : Exit → Act → World → Prop} {n : Nat}
/-- The call of a round; the walk's own rows stay. -/
theorem yieldM {ops : Array Oper} (lst : List Oper) (dst : Tmp) {r : Nat} {args : List Value} {R : Ending → World → Prop} (I : SI J F ds β c a w) (hY : YieldAt Fence.wide (n - 1) P r args.toArray w R)
    (k : ∀ e w', R e w' → ∃ v, e = .returned v ∧ At P Q (cfO ops lst.tail (c.tm.set dst (some (Sum.inl v))) c.rows c.nx) (a.put (some dst) v) w')
    (hc : yQ ops c.tm lst = some (r, args, some dst) := by kernel_rfl) (ho : c.ops = ops := by kernel_rfl) : wpListIn Fence.wide n P ops Q lst a w := by
  cases lst with
  | nil => cases hc
  | cons o post =>
    simp only [yQ] at hc
    split at hc
    · next hw =>
      subst ho
      split at hc
      · next x xs ts hop =>
        split at hc
        · next r' f g hx =>
          split at hc
          · next hfg =>
            obtain rfl := Array.eq_empty_of_size_eq_zero hfg.1
            obtain rfl := Array.eq_empty_of_size_eq_zero hfg.2
            simp only [Option.map_eq_some_iff, Prod.mk.injEq] at hc
            obtain ⟨vs, hm, rfl, rfl, hd⟩ := hc
            refine yieldO hop (evQ_ok I.fr hx) ?_ (wantQ_ok I hw) hY fun e w' he => ?_
            · rw [← mapQ_ok I.fr hm]; apply Array.ext'; simp
            · obtain ⟨v, rfl, h2⟩ := k e w' he
              refine ⟨v, rfl, ?_⟩
              rw [hd]
              exact lastS h2
          · cases hc
        · cases hc
      · cases hc
    · cases hc
end
/-- Behind what is told at a function's end. -/
theorem GS.fin {w WR w' : World} {b D : Nat} {K : Nat → Prop} {Fs : List Lf} {O : List Ow} (h : GS w WR b (fun k => k = D) K Fs O w') (hb : w.heap.size ≤ b) (hD : w.heap.size ≤ D) (q : Obj) : GS w w w.heap.size noK (· < w.heap.size) [] O (w'.putObj D q) := by
  have h0 := h.fin0 hb
  have hs : (w'.putObj D q).heap.size = w'.heap.size := by simp [World.putObj]
  have hne : ∀ k, k ≠ D → (w'.putObj D q).heap[k]? = w'.heap[k]? := fun k hk => World.putObj_heap_other hk
  refine ⟨⟨h.bw.os, h.bw.tape, h.bw.output, by rw [hs]; exact h.bw.size, fun k hk => (hne k (by omega)).trans (h.bw.block k hk)⟩, by rw [hs]; exact h0.rs, by rw [hs]; exact h0.bs, fun _ h => h.elim, fun _ h => h.elim, fun k hk => by rw [hs]; exact h0.kb k hk, h0.lo, fun f hf => by (cases hf), fun o ho => ?_, h0.on, h0.ap⟩
  exact owns_grow (F := fun k => k ≠ D) (h0.ow o ho) ⟨rfl, rfl, rfl, by rw [hs]; exact Nat.le_refl _, fun k _ hk => hne k hk⟩ fun k hk => (h.on o ho k hk).2
theorem agL {n m : Nat} {β β' : Nat → Nat} (h : Agree m β β') (hn : decide (n ≤ m) = true := by kernel_rfl) : Agree n β β' := fun i hi => h i (Nat.lt_of_lt_of_le hi (of_decide_eq_true hn))
theorem agT {n : Nat} {β β' β'' : Nat → Nat} (h : Agree n β β') (k : Agree n β' β'') : Agree n β β'' := fun i hi => (k i hi).trans (h i hi)
theorem take_get {α : Type} {l : List α} {i : Nat} {x : α} (h : l[i]? = some x) : l.take i ++ [x] = l.take (i + 1) := by rw [List.take_add_one, h]; rfl
section
variable {T : World → Prop}
abbrev lT (x y : Int) (h : x < y) : Fa Tryd.prog T := bO .lss 3 (run_lssZ (x := x) (y := y) (b := true) (decide_eq_true h))
abbrev lF (x y : Int) (h : ¬ x < y) : Fa Tryd.prog T := bO .lss 3 (run_lssZ (x := x) (y := y) (b := false) (decide_eq_false h))
abbrev p1 (i : Nat) (h : i < 1000000000) : Fa Tryd.prog T := bO .add 3 (run_addZ (x := i) (y := 1) (z := (i + 1 : Nat)) (by rw [wz (by omega) (by omega)]; omega))
abbrev ntO (b : Bool) : Fa Tryd.prog T := uO .not (p := .bool b) (v := .bool (!b)) (fun w => run_not w)
end
end Go.Proofs.YtdlanihbpbfbcaaDoor
