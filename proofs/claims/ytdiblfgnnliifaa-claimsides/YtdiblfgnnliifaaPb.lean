/- What a walk holds: lists in blocks, and rows of its own that grow. -/
import Derived.Test.YtdiblfgnnliifaaPa
namespace Go.Proofs.Ytdiblfgnnliifaa
open Go.RowKit Go.Sort
set_option linter.unusedVariables false
set_option maxRecDepth 100000
/-- What is told by blocks alone. -/
structure Lf where
  p : (Nat → Prop) → World → Prop
  loc : ∀ (K K' : Nat → Prop) (w w' : World), (∀ k, K k → K' k ∧ w'.heap[k]? = w.heap[k]?) → p K w → p K' w'
def alF (v : Value) (l : List Al) : Lf := ⟨fun K w => SlI 8 C8 K w v l, fun K K' w w' h H => H.keep C8.loc h⟩
def nuF (v : Value) (l : List Nat) : Lf := ⟨fun K w => SlI 4 C4 K w v l, fun K K' w w' h H => H.keep C4.loc h⟩
def inF (v : Value) (l : List Int) : Lf := ⟨fun K w => SlI 1 C1 K w v l, fun K K' w w' h H => H.keep C1.loc h⟩
/-- A row of one's own. -/
structure Ow where
  e : Nat
  sz : Nat
  v : Value
  X : List (List Value)
structure GS (w0 WR : World) (b : Nat) (Kp K : Nat → Prop) (Fs : List Lf) (O : List Ow) (w : World) : Prop where
  bw : Below w0.heap.size w0 w
  rs : WR.heap.size ≤ w.heap.size
  bs : b ≤ w.heap.size
  kk : ∀ k, Kp k → k < WR.heap.size
  nc : ∀ k, Kp k → w.heap[k]? = WR.heap[k]?
  kb : ∀ k, K k → k < w.heap.size
  lo : ∀ k, k < w0.heap.size → K k
  sl : ∀ f ∈ Fs, f.p K w
  ow : ∀ o ∈ O, w.ownsRow b o.e o.sz o.v o.X.length o.X.flatten
  on : ∀ o ∈ O, ∀ k, o.v.ownBlock = some k → ¬ K k ∧ ¬ Kp k
  ap : O.Pairwise fun o o' => ∀ k, o.v.ownBlock = some k → o'.v.ownBlock ≠ some k
def MB (O : List Ow) (k : Nat) : Prop := ∃ o ∈ O, o.v.ownBlock = some k
def GF (Kp K : Nat → Prop) (O : List Ow) (k : Nat) : Prop := K k ∨ MB O k ∨ Kp k
section
variable {w0 WR : World} {b : Nat} {Kp K : Nat → Prop} {Fs : List Lf} {O : List Ow} {w w' : World}
theorem GS.rsr (w0 WR : World) (b : Nat) (Kp K : Nat → Prop) (Fs : List Lf) (O : List Ow) : Rsrc (GS w0 WR b Kp K Fs O) (GF Kp K O) := by
  refine ⟨fun w w' h g => ?_, fun w k h hk => ?_⟩
  · exact ⟨⟨g.os.trans h.bw.os, g.tape.trans h.bw.tape, g.output.trans h.bw.output, Nat.le_trans h.bw.size g.size, fun k hk => (g.block k (Nat.lt_of_lt_of_le hk h.bw.size) (.inl (h.lo k hk))).trans (h.bw.block k hk)⟩, Nat.le_trans h.rs g.size, Nat.le_trans h.bs g.size, h.kk, fun k hk => (g.block k (Nat.lt_of_lt_of_le (h.kk k hk) h.rs) (.inr (.inr hk))).trans (h.nc k hk), fun k hk => Nat.lt_of_lt_of_le (h.kb k hk) g.size, h.lo, fun f hf => f.loc _ _ _ _ (fun k hk => ⟨hk, g.block k (h.kb k hk) (.inl hk)⟩) (h.sl f hf), fun o ho => owns_grow (h.ow o ho) g fun k hk => .inr (.inl ⟨o, ho, hk⟩), h.on, h.ap⟩
  · rcases hk with hk | ⟨o, ho, hk⟩ | hk
    · exact h.kb k hk
    · exact ((h.ow o ho).lt k hk).2
    · exact Nat.lt_of_lt_of_le (h.kk k hk) h.rs
theorem GS.below (h : GS w0 WR b Kp K Fs O w) (hb : Below w.heap.size w w') : GS w0 WR b Kp K Fs O w' := (GS.rsr w0 WR b Kp K Fs O).loc w w' h (Grow.of_below hb)
theorem GS.start (w : World) {Fs : List Lf} (h : ∀ f ∈ Fs, f.p (· < w.heap.size) w) : GS w w w.heap.size noK (· < w.heap.size) Fs [] w :=
  ⟨Below.refl _ _, Nat.le_refl _, Nat.le_refl _, fun _ h => h.elim, fun _ h => h.elim, fun _ h => h, fun _ h => h, h, fun o h => by (cases h), fun o h => by (cases h), List.Pairwise.nil⟩
/-- A fact by its place. -/
theorem GS.at (h : GS w0 WR b Kp K Fs O w) (i : Nat) {f : Lf} (hi : Fs[i]? = some f) : f.p (· < w.heap.size) w := f.loc _ _ _ _ (fun k hk => ⟨h.kb k hk, rfl⟩) (h.sl f (List.mem_of_getElem? hi))
theorem GS.atK (h : GS w0 WR b Kp K Fs O w) (i : Nat) {f : Lf} (hi : Fs[i]? = some f) : f.p K w := h.sl f (List.mem_of_getElem? hi)
theorem GS.nil (h : GS w0 WR b Kp K Fs O w) (e sz : Nat) : GS w0 WR b Kp K Fs (⟨e, sz, .slice none 0 0, []⟩ :: O) w :=
  ⟨h.bw, h.rs, h.bs, h.kk, h.nc, h.kb, h.lo, h.sl, fun o ho => by
    rcases List.mem_cons.1 ho with rfl | ho
    · exact World.ownsRow_nil _ _ _ _
    · exact h.ow o ho, fun o ho k hk => by
    rcases List.mem_cons.1 ho with rfl | ho
    · cases hk
    · exact h.on o ho k hk, List.pairwise_cons.2 ⟨fun o' _ k hk => (by cases hk), h.ap⟩⟩
theorem GF.nil {e sz k : Nat} (h : GF Kp K (⟨e, sz, .slice none 0 0, []⟩ :: O) k) : GF Kp K O k := by
  rcases h with h | ⟨o, ho, h⟩ | h
  · exact .inl h
  · rcases List.mem_cons.1 ho with rfl | ho
    · cases h
    · exact .inr (.inl ⟨o, ho, h⟩)
  · exact .inr (.inr h)
end
theorem SI.chg {J J' : World → Prop} {F F' : Nat → Prop} {ds : List Deferred} {β : Nat → Nat} {c : Cf} {a : Act} {w : World} (I : SI J F ds β c a w) (h : J' w) (hF : ∀ k, F' k → F k) : SI J' F' ds β c a w := ⟨I.fr, I.df, h, I.row, fun p hp hk => I.dis p hp (hF _ hk), I.lt, I.inj, I.ids⟩
section
variable {w0 WR : World} {b : Nat} {Kp K : Nat → Prop} {Fs : List Lf} {O : List Ow} {ds : List Deferred} {β : Nat → Nat} {c : Cf} {a : Act} {w w' : World}
theorem SI.nil (I : SI (GS w0 WR b Kp K Fs O) (GF Kp K O) ds β c a w) (e sz : Nat) : SI (GS w0 WR b Kp K Fs (⟨e, sz, .slice none 0 0, []⟩ :: O)) (GF Kp K (⟨e, sz, .slice none 0 0, []⟩ :: O)) ds β c a w := I.chg (I.hJ.nil e sz) fun k h => GF.nil h
/-- What a call has laid anew. -/
def NW (w : World) (G : List Lf) (w' : World) : Prop := Below w.heap.size w w' ∧ ∃ K1, (∀ k, K1 k → w.heap.size ≤ k ∧ k < w'.heap.size) ∧ ∀ f ∈ G, f.p K1 w'
theorem SI.gs {G : List Lf} (I : SI (GS w0 WR b Kp K Fs O) (GF Kp K O) ds β c a w) (h : NW w G w') (r : Value) : ∃ K', SI (GS w0 WR b Kp K' (G ++ Fs) O) (GF Kp K' O) ds β (nxtQ c r) (a.put (dstQ c) r) w' := by
  obtain ⟨hb, K1, h1, h2⟩ := h
  have hJ := I.hJ.below hb
  have J2 : GS w0 WR b Kp (fun k => K k ∨ K1 k) (G ++ Fs) O w' := by
    refine ⟨hJ.bw, hJ.rs, hJ.bs, hJ.kk, hJ.nc, fun k hk => ?_, fun k hk => .inl (hJ.lo k hk), fun f hf => ?_, hJ.ow, fun o ho k hk => ?_, hJ.ap⟩
    · rcases hk with hk | hk
      · exact hJ.kb k hk
      · exact (h1 k hk).2
    · rcases List.mem_append.1 hf with hf | hf
      · exact f.loc _ _ _ _ (fun k hk => ⟨.inr hk, rfl⟩) (h2 f hf)
      · exact f.loc _ _ _ _ (fun k hk => ⟨.inl hk, rfl⟩) (hJ.sl f hf)
    · refine ⟨fun hK => ?_, (I.hJ.on o ho k hk).2⟩
      rcases hK with hK | hK
      · exact (I.hJ.on o ho k hk).1 hK
      · have := ((I.hJ.ow o ho).lt k hk).2
        have := (h1 k hK).1
        omega
  have hF : ∀ k, k < w.heap.size → GF Kp (fun k => K k ∨ K1 k) O k → GF Kp K O k := fun k hk hF => by
    rcases hF with (hF | hF) | hF
    · exact .inl hF
    · have := (h1 k hF).1; omega
    · exact .inr hF
  exact ⟨_, I.moved (Grow.of_below hb) J2 hF r⟩
/-- One element behind a row of one's own. -/
theorem gapp {t e sz by_ : Nat} {z : Value} (ht : Try.prog.underlying t = some (.slice e)) (hinf : ∃ i, Try.prog.info? e = some i ∧ i.zero = some z ∧ i.size = sz ∧ i.bytes = by_) (hzs : z.cells.size = sz) (hsz : 0 < sz) (hby : by_ ≤ 1000)
    (A B : List Ow) {m cap : Nat} {ad : Option Addr} {X : List (List Value)} {cs : List Value} {ev : Value} {w6 : World} {Q : Exit → Act → World → Prop}
    (hbs : (Instr.buildSlice t 1 #[(0, ev)]).run Try.prog w6 = .ok (.slice (some ⟨w6.heap.size, 0, none⟩) 1 1) (w6.alloc (.cells cs.toArray e))) (hcs : cs.length = sz) (hone : ∀ u ∈ cs, u.oneCell' = true)
    (I6 : SI (GS w0 WR b Kp K Fs (A ++ ⟨e, sz, .slice ad m cap, X⟩ :: B)) (GF Kp K (A ++ ⟨e, sz, .slice ad m cap, X⟩ :: B)) ds β c a w6) (hXm : X.length = m) (hm : m < 100000000)
    (k : ∀ ad8 cap8 a8 w8, SI (GS w0 WR b Kp K Fs (A ++ ⟨e, sz, .slice ad8 (m + 1) cap8, X ++ [cs]⟩ :: B)) (GF Kp K (A ++ ⟨e, sz, .slice ad8 (m + 1) cap8, X ++ [cs]⟩ :: B)) ds β (nxtQ (nxtQ c (.slice (some ⟨w6.heap.size, 0, none⟩) 1 1)) (.slice ad8 (m + 1) cap8)) a8 w8 → At Try.prog Q (nxtQ (nxtQ c (.slice (some ⟨w6.heap.size, 0, none⟩) 1 1)) (.slice ad8 (m + 1) cap8)) a8 w8)
    (hc1 : bsQ c = some (t, 1, [(0, Sum.inl ev)]) := by kernel_rfl)
    (hc2 : bltQ (nxtQ c (.slice (some ⟨w6.heap.size, 0, none⟩) 1 1)) = some (.append, #[t, t], t, [Sum.inl (.slice ad m cap), Sum.inl (.slice (some ⟨w6.heap.size, 0, none⟩) 1 1)]) := by kernel_rfl) : At Try.prog Q c a w6 := by
  have hRs := GS.rsr w0 WR b Kp K Fs (A ++ ⟨e, sz, .slice ad m cap, X⟩ :: B)
  refine bslQ (ss := [(0, Sum.inl ev)]) I6 hbs ?_ hc1
  have I7 := I6.alloc hRs (.cells cs.toArray e) (.slice (some ⟨w6.heap.size, 0, none⟩) 1 1)
  obtain ⟨inf, hi1, hi2, hi3, hi4⟩ := hinf
  have hmem : (⟨e, sz, .slice ad m cap, X⟩ : Ow) ∈ A ++ ⟨e, sz, .slice ad m cap, X⟩ :: B := by simp
  have hown7 := I7.hJ.ow _ hmem
  simp only [] at hown7
  rw [hXm] at hown7
  obtain ⟨v', w8, hr8, ho8, hg8⟩ := app_els ht hi1 hi2 hi3 hi4 hzs hsz hby hown7 I7.hJ.bs ⟨w6.heap.size, 0, none⟩ cs (by rw [hcs, Nat.one_mul]) (alloc_cell w6 cs.toArray e) hone (by omega)
  obtain ⟨ad8, cap8, rfl⟩ := owns_slice ho8
  refine appQ (ss := [Sum.inl (.slice ad m cap), Sum.inl (.slice (some ⟨w6.heap.size, 0, none⟩) 1 1)]) I7 hr8 ?_ hc2
  have hXl1 : (X ++ [cs]).length = m + 1 := by simp [hXm]
  have hXf : X.flatten ++ cs = (X ++ [cs]).flatten := by simp
  rw [hXf] at ho8
  generalize w6.alloc (.cells cs.toArray e) = w7 at *
  have H := I7.hJ
  have hon := H.on _ hmem
  simp only [] at hon
  have hblk : ∀ k, k < w7.heap.size → (Value.slice ad m cap).ownBlock ≠ some k → w8.heap[k]? = w7.heap[k]? := fun k hk hn => hg8.gr.block k hk fun e => hn e.symm
  have hap := List.pairwise_append.1 H.ap
  have hapc := List.pairwise_cons.1 hap.2.1
  have hkeep : ∀ o, o ∈ A ∨ o ∈ B → w8.ownsRow b o.e o.sz o.v o.X.length o.X.flatten := fun o ho => by
    have hm2 : o ∈ A ++ ⟨e, sz, .slice ad m cap, X⟩ :: B := by
      rcases ho with ho | ho <;> simp [ho]
    refine owns_grow (F := fun k => (Value.slice ad m cap).ownBlock ≠ some k) (H.ow o hm2) ⟨hg8.gr.os, hg8.gr.tape, hg8.gr.output, hg8.gr.size, fun k hk hn => hblk k hk hn⟩ fun k hk hq => ?_
    rcases ho with ho | ho
    · exact hap.2.2 o ho _ List.mem_cons_self k hk hq
    · exact hapc.1 o ho k hq hk
  have J8 : GS w0 WR b Kp K Fs (A ++ ⟨e, sz, .slice ad8 (m + 1) cap8, X ++ [cs]⟩ :: B) w8 := by
    refine ⟨?_, Nat.le_trans H.rs hg8.gr.size, Nat.le_trans H.bs hg8.gr.size, H.kk, fun k hk => ?_, fun k hk => Nat.lt_of_lt_of_le (H.kb k hk) hg8.gr.size, H.lo, fun f hf => ?_, fun o ho => ?_, fun o ho k hk => ?_, ?_⟩
    · exact ⟨hg8.gr.os.trans H.bw.os, hg8.gr.tape.trans H.bw.tape, hg8.gr.output.trans H.bw.output, Nat.le_trans H.bw.size hg8.gr.size, fun k hk => (hblk k (Nat.lt_of_lt_of_le hk H.bw.size) fun e => (hon k e).1 (H.lo k hk)).trans (H.bw.block k hk)⟩
    · exact (hblk k (Nat.lt_of_lt_of_le (H.kk k hk) H.rs) fun e => (hon k e).2 hk).trans (H.nc k hk)
    · exact f.loc _ _ _ _ (fun k hk => ⟨hk, hblk k (H.kb k hk) fun e => (hon k e).1 hk⟩) (H.sl f hf)
    · rcases List.mem_append.1 ho with ho | ho
      · exact hkeep o (.inl ho)
      · rcases List.mem_cons.1 ho with rfl | ho
        · rw [hXl1]; exact ho8
        · exact hkeep o (.inr ho)
    · rcases List.mem_append.1 ho with ho | ho
      · exact H.on o (by simp [ho]) k hk
      · rcases List.mem_cons.1 ho with rfl | ho
        · rcases hg8.nb k hk with h4 | h4
          · exact hon k h4
          · exact ⟨fun q => by have := H.kb k q; omega, fun q => by have := H.kk k q; have := H.rs; omega⟩
        · exact H.on o (by simp [ho]) k hk
    · have hlt : ∀ o, o ∈ A ∨ o ∈ B → ∀ k, o.v.ownBlock = some k → k < w7.heap.size := fun o ho k hk => by
        have hm2 : o ∈ A ++ ⟨e, sz, .slice ad m cap, X⟩ :: B := by
          rcases ho with ho | ho <;> simp [ho]
        exact ((H.ow o hm2).lt k hk).2
      refine List.pairwise_append.2 ⟨hap.1, List.pairwise_cons.2 ⟨fun o ho k hk hq => ?_, hapc.2⟩, fun o ho o' ho' k hk hq => ?_⟩
      · rcases hg8.nb k hk with h4 | h4
        · exact hapc.1 o ho k h4 hq
        · have := hlt o (.inr ho) k hq; omega
      · rcases List.mem_cons.1 ho' with rfl | ho'
        · rcases hg8.nb k hq with h4 | h4
          · exact hap.2.2 o ho _ List.mem_cons_self k hk h4
          · have := hlt o (.inl ho) k hk; omega
        · exact hap.2.2 o ho o' (List.mem_cons_of_mem _ ho') k hk hq
  have hF : ∀ k, k < w7.heap.size → GF Kp K (A ++ ⟨e, sz, .slice ad8 (m + 1) cap8, X ++ [cs]⟩ :: B) k → GF Kp K (A ++ ⟨e, sz, .slice ad m cap, X⟩ :: B) k := fun k hk h => by
    rcases h with h | ⟨o, ho, h⟩ | h
    · exact .inl h
    · rcases List.mem_append.1 ho with ho | ho
      · exact .inr (.inl ⟨o, by simp [ho], h⟩)
      · rcases List.mem_cons.1 ho with rfl | ho
        · rcases hg8.nb k h with h4 | h4
          · exact .inr (.inl ⟨_, hmem, h4⟩)
          · omega
        · exact .inr (.inl ⟨o, by simp [ho], h⟩)
    · exact .inr (.inr h)
  exact k ad8 cap8 _ w8 (I7.moved ⟨hg8.gr.os, hg8.gr.tape, hg8.gr.output, hg8.gr.size, fun k hk hn => hblk k hk fun e => hn (.inr (.inl ⟨_, hmem, e⟩))⟩ J8 hF (.slice ad8 (m + 1) cap8))
end
/-- A row of one's own as a list. -/
theorem own_list {α : Type} {C : Cl α} (f : α → List Value) {w : World} {b e sz : Nat} {v : Value} {l : List α} (h : w.ownsRow b e sz v (l.map f).length (l.map f).flatten) (hf : ∀ x ∈ l, (f x).length = sz ∧ C (fun k => v.ownBlock = some k) w x (f x)) : SlI sz C (fun k => v.ownBlock = some k) w v l := by
  obtain ⟨ad, cap, rfl⟩ := owns_slice h
  refine ⟨ad, cap, by rw [List.length_map], fun i x hi => ?_⟩
  have hil := (List.getElem?_eq_some_iff.1 hi).1
  have hX : (l.map f)[i]? = some (f x) := by rw [List.getElem?_map, hi]; rfl
  have hlen : ∀ y ∈ l.map f, y.length = sz := fun y hy => by
    obtain ⟨x, hx, rfl⟩ := List.mem_map.1 hy
    exact (hf x hx).1
  rcases h.2 with ⟨hv, hn⟩ | ⟨g, cap', cur, hv, hb, hg, hnc, hcm, hcs, hct⟩
  · rw [List.length_map] at hn; omega
  · cases hv
    refine ⟨g, 0, f x, rfl, rfl, fun j c hc => ?_, (hf x (List.mem_of_getElem? hi)).2⟩
    have := h.cells (g := g) rfl (i * sz + j) c (flat_sz hc hlen hX)
    rw [add_off] at this
    rw [Nat.zero_add]
    rwa [Nat.zero_add] at this
theorem hI42 : ∃ i, Try.prog.info? 39 = some i ∧ i.zero = some (.agg #[.string ⟨#[]⟩, B 0, B 0, B 0, B 0, Z 0, .string ⟨#[]⟩, .string ⟨#[]⟩]) ∧ i.size = 8 ∧ i.bytes = 88 := info_of (by kernel_rfl)
theorem hI24 : ∃ i, Try.prog.info? 25 = some i ∧ i.zero = some (.agg #[B 0, B 0, B 0, B 0]) ∧ i.size = 4 ∧ i.bytes = 32 := info_of (by kernel_rfl)
theorem bs25_1 (x : Al) (w : World) : (Instr.buildSlice 22 1 #[(0, alV x)]).run Try.prog w = .ok (.slice (some ⟨w.heap.size, 0, none⟩) 1 1) (w.alloc (.cells (al8 x).toArray 39)) := by kernel_rfl
theorem one_al (x : Al) : ∀ u ∈ al8 x, u.oneCell' = true := fun u hu => by
  unfold al8 at hu
  simp only [List.mem_cons, List.not_mem_nil, or_false] at hu
  rcases hu with rfl | rfl | rfl | rfl | rfl | rfl | rfl | rfl <;> rfl
theorem one_nu (n : Nat) : ∀ u ∈ u4 n, u.oneCell' = true := fun u hu => by
  unfold u4 at hu
  simp only [List.mem_cons, List.not_mem_nil, or_false] at hu
  rcases hu with rfl | rfl | rfl | rfl <;> rfl
abbrev alO (v : Value) (l : List Al) : Ow := ⟨39, 8, v, l.map al8⟩
abbrev nuO (v : Value) (l : List Nat) : Ow := ⟨25, 4, v, l.map u4⟩
theorem alO_list {w : World} {b : Nat} {v : Value} {l : List Al} (h : w.ownsRow b (alO v l).e (alO v l).sz (alO v l).v (alO v l).X.length (alO v l).X.flatten) (hl : ∀ x ∈ l, x.2.1 < W) : (alF v l).p (fun k => v.ownBlock = some k) w := own_list al8 h fun x hx => ⟨rfl, rfl, hl x hx⟩
theorem nuO_list {w : World} {b : Nat} {v : Value} {l : List Nat} (h : w.ownsRow b (nuO v l).e (nuO v l).sz (nuO v l).v (nuO v l).X.length (nuO v l).X.flatten) (hl : ∀ x ∈ l, x < W) : (nuF v l).p (fun k => v.ownBlock = some k) w := own_list u4 h fun x hx => ⟨rfl, rfl, hl x hx⟩
section
variable {w0 WR : World} {b : Nat} {Kp K : Nat → Prop} {Fs : List Lf} {ds : List Deferred} {β : Nat → Nat} {c : Cf} {a : Act} {w6 : World} {Q : Exit → Act → World → Prop}
theorem app_al (A B : List Ow) {m cap : Nat} {ad : Option Addr} {l : List Al} (x : Al) {l' : List Al} (hl' : l ++ [x] = l') (I : SI (GS w0 WR b Kp K Fs (A ++ alO (.slice ad m cap) l :: B)) (GF Kp K (A ++ alO (.slice ad m cap) l :: B)) ds β c a w6) (hlm : l.length = m) (hm : m < 100000000)
    (k : ∀ ad8 cap8 a8 w8, SI (GS w0 WR b Kp K Fs (A ++ alO (.slice ad8 (m + 1) cap8) l' :: B)) (GF Kp K (A ++ alO (.slice ad8 (m + 1) cap8) l' :: B)) ds β (nxtQ (nxtQ c (.slice (some ⟨w6.heap.size, 0, none⟩) 1 1)) (.slice ad8 (m + 1) cap8)) a8 w8 → At Try.prog Q (nxtQ (nxtQ c (.slice (some ⟨w6.heap.size, 0, none⟩) 1 1)) (.slice ad8 (m + 1) cap8)) a8 w8)
    (hc1 : bsQ c = some (22, 1, [(0, Sum.inl (alV x))]) := by kernel_rfl)
    (hc2 : bltQ (nxtQ c (.slice (some ⟨w6.heap.size, 0, none⟩) 1 1)) = some (.append, #[22, 22], 22, [Sum.inl (.slice ad m cap), Sum.inl (.slice (some ⟨w6.heap.size, 0, none⟩) 1 1)]) := by kernel_rfl) : At Try.prog Q c a w6 :=
  gapp Try.underlying22 hI42 rfl (by decide) (by decide) A B (bs25_1 x w6) rfl (one_al x) I (by rw [List.length_map]; exact hlm) hm (fun ad8 cap8 a8 w8 I8 => by
    have e : l.map al8 ++ [al8 x] = l'.map al8 := by rw [← hl']; simp
    rw [e] at I8
    exact k ad8 cap8 a8 w8 I8) hc1 hc2
end
theorem GS.fin0 {w WR w' : World} {b : Nat} {Kp K : Nat → Prop} {Fs : List Lf} {O : List Ow} (h : GS w WR b Kp K Fs O w') (hb : w.heap.size ≤ b) : GS w w w.heap.size noK (· < w.heap.size) [] O w' :=
  ⟨h.bw, h.bw.size, h.bw.size, fun _ h => h.elim, fun _ h => h.elim, fun k hk => Nat.lt_of_lt_of_le hk h.bw.size, fun _ h => h, fun f hf => by (cases hf), fun o ho => own_low (h.ow o ho) hb, fun o ho k hk => ⟨fun hq => by have := ((h.ow o ho).lt k hk).1; omega, fun h => h⟩, h.ap⟩
/-- Two rows of one's own, or one, behind a function. -/
theorem GS.new2 {w WR : World} {b : Nat} {Kp : Nat → Prop} {Fs : List Lf} {v1 v2 : Value} {l1 : List Al} {l2 : List Nat} {w' : World} (h : GS w WR b Kp (· < w.heap.size) Fs [alO v1 l1, nuO v2 l2] w') (h1 : ∀ x ∈ l1, x.2.1 < W) (h2 : ∀ x ∈ l2, x < W) : NW w [alF v1 l1, nuF v2 l2] w' := by
  refine ⟨h.bw, fun k => v1.ownBlock = some k ∨ v2.ownBlock = some k, fun k hk => ?_, fun f hf => ?_⟩
  · have hn : ¬ k < w.heap.size := by
      rcases hk with hk | hk
      · exact (h.on (alO v1 l1) (by simp) k hk).1
      · exact (h.on (nuO v2 l2) (by simp) k hk).1
    refine ⟨by omega, ?_⟩
    rcases hk with hk | hk
    · exact ((h.ow (alO v1 l1) (by simp)).lt k hk).2
    · exact ((h.ow (nuO v2 l2) (by simp)).lt k hk).2
  · simp only [List.mem_cons, List.not_mem_nil, or_false] at hf
    rcases hf with rfl | rfl
    · exact (alF v1 l1).loc _ _ _ _ (fun k hk => ⟨.inl hk, rfl⟩) (alO_list (h.ow (alO v1 l1) (by simp)) h1)
    · exact (nuF v2 l2).loc _ _ _ _ (fun k hk => ⟨.inr hk, rfl⟩) (nuO_list (h.ow (nuO v2 l2) (by simp)) h2)
theorem GS.new1 {w WR : World} {b : Nat} {Kp : Nat → Prop} {Fs : List Lf} {v2 : Value} {l2 : List Nat} {w' : World} (h : GS w WR b Kp (· < w.heap.size) Fs [nuO v2 l2] w') (h2 : ∀ x ∈ l2, x < W) : NW w [nuF v2 l2] w' := by
  refine ⟨h.bw, fun k => v2.ownBlock = some k, fun k hk => ?_, fun f hf => ?_⟩
  · have hn : ¬ k < w.heap.size := (h.on (nuO v2 l2) (by simp) k hk).1
    exact ⟨by omega, ((h.ow (nuO v2 l2) (by simp)).lt k hk).2⟩
  · simp only [List.mem_cons, List.not_mem_nil, or_false] at hf
    subst hf
    exact nuO_list (h.ow (nuO v2 l2) (by simp)) h2
end Go.Proofs.Ytdiblfgnnliifaa
