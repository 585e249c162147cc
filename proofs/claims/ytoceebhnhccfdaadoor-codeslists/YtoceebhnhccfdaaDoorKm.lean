/- A code as text: the program's Listing. -/
import Derived.Test.YtoceebhnhccfdaaDoorKl
import Derived.Test.YtoceebhnhccfdaaDoorKj
namespace Go.Proofs.YtoceebhnhccfdaaDoor
open Go.RowKit Go.Sort Go.Shelf
set_option linter.unusedVariables false
set_option maxRecDepth 100000
/-- What is left to be run where a loop over a function stands. -/
def ksOf : Code → List Ki → Option (List Ki)
  | .seq x y, ks => (ksOf x (Sum.inl y :: ks)).or (ksOf y ks)
  | .block id (.rangeFunc g ps x y), ks => some (Sum.inl (.block id (.rangeFunc g ps x y)) :: ks)
  | .block id x, ks => ksOf x (Sum.inr id :: ks)
  | _, _ => none
def ksR (fn : Func) : List Ki := (fn.body.bind (ksOf · [])).getD []
theorem at_ks {P : Program} {Q : Exit → Act → World → Prop} {c : Cf} {a : Act} {w : World} {ks : List Ki} {tm : Vs} {rows : Rows} {nx : Nat} (h : At P Q (cfQ ks tm rows nx) a w) (he : (c.rest, c.ks, c.dn) = ([], ks, none) := by kernel_rfl) : At P Q c a w := by
  simp only [Prod.mk.injEq] at he
  refine ⟨?_⟩
  have := h.out
  unfold AtD at this ⊢
  rw [he.1, he.2.1, he.2.2]
  exact this
/-- In a round: a row of bytes, held by a cell, that grows. -/
structure LS (W : World) (N g3 : Nat) (v0 v : Value) (l : List UInt8) (w : World) : Prop where
  own : w.ownsRow N 5 1 v l.length (bc l)
  gr : Grow (fun k => k ≠ g3 ∧ ¬ v0.ownBlock = some k) W w
  nb : ∀ k, v.ownBlock = some k → v0.ownBlock = some k ∨ W.heap.size ≤ k
def LF (W : World) (g3 : Nat) (v : Value) (k : Nat) : Prop := (k < W.heap.size ∧ k ≠ g3) ∨ v.ownBlock = some k
theorem LS.rs (W : World) (N g3 : Nat) (v0 v : Value) (l : List UInt8) : Rsrc (LS W N g3 v0 v l) (LF W g3 v) := by
  refine ⟨fun w w' h gr => ⟨owns_grow h.own gr fun k hk => .inr hk, ⟨gr.os.trans h.gr.os, gr.tape.trans h.gr.tape, gr.output.trans h.gr.output, Nat.le_trans h.gr.size gr.size, fun k hk hn => (gr.block k (Nat.lt_of_lt_of_le hk h.gr.size) (.inl ⟨hk, hn.1⟩)).trans (h.gr.block k hk hn)⟩, h.nb⟩, fun w k h hk => ?_⟩
  rcases hk with hk | hk
  · exact Nat.lt_of_lt_of_le hk.1 h.gr.size
  · exact (h.own.lt k hk).2
theorem LS.grown {W : World} {N g3 : Nat} {v0 v v' : Value} {l l' : List UInt8} {w w' : World} (h : LS W N g3 v0 v l w) (ho : w'.ownsRow N 5 1 v' l'.length (bc l')) (hg : Grw v v' w w') : LS W N g3 v0 v' l' w' := by
  refine ⟨ho, ⟨hg.gr.os.trans h.gr.os, hg.gr.tape.trans h.gr.tape, hg.gr.output.trans h.gr.output, Nat.le_trans h.gr.size hg.gr.size, fun k hk hn => ?_⟩, fun k hk => ?_⟩
  · refine (hg.gr.block k (Nat.lt_of_lt_of_le hk h.gr.size) fun e => ?_).trans (h.gr.block k hk hn)
    rcases h.nb k e.symm with h1 | h1
    · exact hn.2 h1
    · omega
  · rcases hg.nb k hk with h1 | h1
    · exact h.nb k h1
    · exact .inr (Nat.le_trans h.gr.size h1)
theorem SI.grownL {W : World} {N g3 : Nat} {v0 v v' : Value} {l l' : List UInt8} {w w' : World} {ds : List Deferred} {β : Nat → Nat} {c : Cf} {a : Act} (I : SI (LS W N g3 v0 v l) (LF W g3 v) ds β c a w) (ho : w'.ownsRow N 5 1 v' l'.length (bc l')) (hg : Grw v v' w w') (u : Value) : SI (LS W N g3 v0 v' l') (LF W g3 v') ds β (nxtQ c u) (a.put (dstQ c) u) w' :=
  I.moved ⟨hg.gr.os, hg.gr.tape, hg.gr.output, hg.gr.size, fun k hk hn => hg.gr.block k hk fun e => hn (.inr e.symm)⟩ (I.hJ.grown ho hg) (fun k hk h => by
    rcases h with h | h
    · exact .inl h
    · rcases hg.nb k h with h | h
      · exact .inr h
      · omega) u
theorem Sf.owns {N : Nat} {A B : World} (h : Sf N A B) {n0 e s : Nat} {v : Value} {n : Nat} {xs : List Value} (ho : A.ownsRow n0 e s v n xs) : B.ownsRow n0 e s v n xs := by
  refine ⟨ho.1, ?_⟩
  rcases ho.2 with h1 | ⟨g, cap, cur, h1, h2, h3, h4⟩
  · exact .inl h1
  · exact .inr ⟨g, cap, cur, h1, h2, h.ce _ _ h3 rfl, h4⟩
/-- The text of a code's operations. -/
def lnP (m : Nat × List UInt8) : List UInt8 := match m.2 with
  | x :: r => lnL x r
  | [] => []
def lsN (c : List UInt8) : List UInt8 := (pc 0 c).flatMap lnP
theorem lnL_len (x : UInt8) (r : List UInt8) : (lnL x r).length ≤ 20 + 5 * r.length := by
  unfold lnL
  have h1 := nmN_len x.toNat (u8_lt x)
  split
  · rw [bareL_len, List.length_cons]; omega
  · split
    · simp; omega
    · simp [hexL_len]; omega
theorem lnP_len (m : Nat × List UInt8) : (lnP m).length ≤ 20 + 5 * m.2.length := by
  unfold lnP
  split
  · next x r h => rw [h]; have := lnL_len x r; simp only [List.length_cons]; omega
  · simp
theorem pcF_len : ∀ (f p : Nat) (l : List UInt8), ((pcF f p l).map fun m => m.2.length).sum ≤ l.length ∧ (pcF f p l).length ≤ l.length
  | 0, p, l => by simp [pcF]
  | f + 1, p, [] => by simp [pcF]
  | f + 1, p, b :: r => by
    have h := pcF_len f (p + 1 + min (ownN b.toNat) r.length) (r.drop (min (ownN b.toNat) r.length))
    rw [List.length_drop] at h
    simp only [pcF, List.map_cons, List.sum_cons, List.length_cons, List.length_take]
    omega
theorem pcF_each : ∀ (f p : Nat) (l : List UInt8) (m : Nat × List UInt8), m ∈ pcF f p l → m.2.length ≤ 33 ∧ m.2.length ≤ l.length
  | 0, p, l, m, h => by cases h
  | f + 1, p, [], m, h => by cases h
  | f + 1, p, b :: r, m, h => by
    simp only [pcF, List.mem_cons] at h
    rcases h with rfl | h
    · have := ownN_lt b.toNat
      simp only [List.length_cons, List.length_take]
      omega
    · have := pcF_each f _ _ m h
      rw [List.length_drop] at this
      simp only [List.length_cons]
      omega
theorem flat_len {α : Type} (f : α → List UInt8) (K : Nat) : ∀ (l : List α), (∀ m ∈ l, (f m).length ≤ K) → (l.flatMap f).length ≤ K * l.length
  | [], _ => by simp
  | m :: l, h => by
    have h1 := flat_len f K l (fun q hq => h q (List.mem_cons_of_mem _ hq))
    have h2 := h m List.mem_cons_self
    rw [List.flatMap_cons, List.length_append, List.length_cons, Nat.mul_add]
    omega
theorem ls_take_len (c : List UInt8) (i : Nat) : (((pc 0 c).take i).flatMap lnP).length ≤ 185 * c.length := by
  refine Nat.le_trans (flat_len lnP 185 _ fun m hm => ?_) (Nat.mul_le_mul_left _ ?_)
  · have := pcF_each _ _ _ m (List.mem_of_mem_take hm)
    have h2 := lnP_len m
    omega
  · rw [List.length_take]
    have := (pcF_len c.length 0 c).2
    unfold pc
    omega
abbrev liK : List Nat := [0, 2, 3, 7]
abbrev liW (c : List UInt8) (b : Nat) : Vs := frm 16 [(0, Sum.inl (str c)), (2, Sum.inl (str [])), (3, Sum.inr (0, 0)), (7, Sum.inl (.func (.func 45) #[] #[.pointer (some ⟨b, 0, none⟩)]))]
structure LI (w5 : World) (g3 : Nat) (v : Value) (l : List UInt8) (W : World) : Prop where
  row : HasRow W g3 #[v]
  own : W.ownsRow w5.heap.size 5 1 v l.length (bc l)
  gr : Grow (fun k => k ≠ g3) w5 W
theorem LI.sf {w5 : World} {g3 : Nat} {v : Value} {l : List UInt8} {A B : World} (h : LI w5 g3 v l A) (hs : Sf w5.heap.size A B) : LI w5 g3 v l B :=
  ⟨hs.row h.row, hs.owns h.own, ⟨hs.bl.os.trans h.gr.os, hs.bl.tape.trans h.gr.tape, hs.bl.output.trans h.gr.output, Nat.le_trans h.gr.size hs.bl.size, fun k hk hn => (hs.bl.block k hk).trans (h.gr.block k hk hn)⟩⟩
set_option maxHeartbeats 4000000 in
theorem listing_any {w : World} (hT : Tb w) (c : List UInt8) (hc : c.length < 1000000) : Calls Tryd.prog 22 #[str c] w fun e w' => e = .returned (str (lsN c)) ∧ RowKit.Below w.heap.size w w' := by
  refine inM (J := RowKit.Below w.heap.size w) (F := (· < w.heap.size)) 6 Tryd.func22 (RowKit.Below.refl _ _) fun a I => ?_
  refine goQ [] (nonR w) I fun β a w3 I3 hb => ?_
  refine mcall (f := 32) (ss := [Sum.inl (str c)]) Tryd.func32 I3 ((pieces_any c w3).mono fun e w4 he => ?_)
  obtain ⟨b, rfl, hbs, hrow, hbl⟩ := he
  have hw3 := I3.hJ.size
  have I4 := I3.moved (J' := fun w' => RowKit.Below w.heap.size w w' ∧ HasRow w' b #[str c]) (F' := fun k => k < w.heap.size ∨ k = b) (Grow.of_below hbl)
    ⟨I3.hJ.trans (hbl.mono hw3), hrow⟩ (fun k hk h => h.elim id fun e => by omega) (.func (.func 45) #[] #[.pointer (some ⟨b, 0, none⟩)])
  have R4 : Rsrc (fun w' => RowKit.Below w.heap.size w w' ∧ HasRow w' b #[str c]) (fun k => k < w.heap.size ∨ k = b) := by
    refine ⟨fun A B h gr => ⟨(nonR w).loc A B h.1 ⟨gr.os, gr.tape, gr.output, gr.size, fun k hk hF => gr.block k hk (.inl hF)⟩, ?_⟩, fun A k h hk => ?_⟩
    · obtain ⟨t, ht⟩ := h.2
      exact ⟨t, by rw [gr.block b (Array.getElem?_eq_some_iff.1 ht).1 (.inr rfl)]; exact ht⟩
    · rcases hk with hk | rfl
      · exact (nonR w).lt A k h.1 hk
      · exact h.2.lt
  refine goQ [] R4 I4 fun β a w5 I5 hb5 => ?_
  obtain ⟨g3, hg3⟩ : ∃ g3, β 0 = g3 := ⟨_, rfl⟩
  obtain ⟨u, Iu⟩ := I5.scr .skip (scrF 16 liK) (liW c b) [(0, #[.slice none 0 0])] 1
  refine at_ks (ks := ksR Tryd.f22) (tm := fillF (scrF 16 liK) u 0 (liW c b)) (rows := [(0, #[.slice none 0 0])]) (nx := 1) ?_
  have I6 : SI _ _ [] β (cfQ (ksR Tryd.f22) (fillF (scrF 16 liK) u 0 (liW c b)) [(0, #[.slice none 0 0])] 1) a w5 := Iu.cf rfl rfl rfl
  clear I5 Iu I4 I3
  have hr3 : HasRow w5 g3 #[.slice none 0 0] := hg3 ▸ I6.row (0, #[.slice none 0 0]) List.mem_cons_self
  have hd3 := I6.dis (0, #[.slice none 0 0]) List.mem_cons_self
  simp only [hg3] at hd3
  have hJ5 := I6.hJ
  have hb3 : b ≠ g3 := fun e => hd3 (.inr e.symm)
  have hg3w : w.heap.size ≤ g3 := Nat.le_of_not_lt fun h => hd3 (.inl h)
  have hg5 := hr3.lt
  have hb5' := hJ5.2.lt
  have hw5 := hJ5.1.size
  refine rangeQ 6 (by decide) Tryd.func45 (pieces_seq 5 b c (by omega)) I6 (fun i W => ∃ v, LI w5 g3 v (((pc 0 c).take i).flatMap lnP) W) (fun _ _ => False)
    (fun i A h => ?_) (fun i A h => ?_) (fun i A B h hs => ?_) (fun cc A B h hs => h) ⟨.slice none 0 0, hr3, ⟨rfl, .inl ⟨rfl, rfl⟩⟩, Grow.refl _ _⟩ (fun i => by kernel_rfl)
    (fun i => parV [8, 9, 5] ((pcE (pc 0 c) i).toList ++ [str ((pc 0 c).getD i (0, [])).2]) (fillF (scrF 16 liK) u 0 (liW c b))) ?_ ?_ ?_ (fun D cc W a' _ h => h.elim)
  · obtain ⟨v, h⟩ := h
    obtain ⟨t, ht⟩ := hJ5.2
    exact ⟨t, (h.gr.block b hb5' hb3).trans ht⟩
  · obtain ⟨v, h⟩ := h
    exact h.gr.size
  · obtain ⟨v, h⟩ := h
    exact ⟨v, h.sf hs⟩
  · intro l i W K a' IA hK
    have hA : rfA (cfQ (ksR Tryd.f22) (fillF (scrF 16 liK) u 0 (liW c b)) [(0, #[.slice none 0 0])] 1) = Code.region 3 (regO Tryd.f22 3) false := by kernel_rfl
    rw [hA]
    refine regR IA fun IA => ?_
    refine goQ [] (nonR W) IA fun β1 a1 w1 IB hb1 => ?_
    exact atN (hK a1 w1 IB.hJ (IB.frE (nx := 1) hb1 _) IB.df)
  · rintro l i a' W hi ⟨v, hLI⟩ hfr hdf
    obtain ⟨m, hm⟩ : ∃ m, (pc 0 c)[i]? = some m := ⟨_, List.getElem?_eq_getElem hi⟩
    have hmD : (pc 0 c).getD i (0, []) = m := by rw [List.getD_eq_getElem?_getD, hm]; rfl
    obtain ⟨hm1, hm2⟩ := pcF_mem _ _ _ m (List.mem_of_getElem? hm)
    have hm3 := pcF_each _ _ _ m (List.mem_of_getElem? hm)
    have hacc : ((pc 0 c).take (i + 1)).flatMap lnP = ((pc 0 c).take i).flatMap lnP ++ lnP m := by rw [List.take_add_one, hm, List.flatMap_append]; simp
    have hal := ls_take_len c i
    have hal1 := ls_take_len c (i + 1)
    obtain ⟨p, s⟩ := m
    simp only [] at hm1 hm2 hm3
    obtain ⟨x, r, rfl⟩ : ∃ x r, s = x :: r := by
      cases s with
      | nil => exact absurd rfl hm2
      | cons x r => exact ⟨x, r, rfl⟩
    simp only [pcE, hmD] at hfr
    have hlp : lnP (p, x :: r) = lnL x r := rfl
    rw [hlp] at hacc
    rw [hacc] at hal1
    generalize ((pc 0 c).take i).flatMap lnP = acc at *
    have hTW : ∀ w', RowKit.Below w.heap.size w w' → Tb w' := fun w' h => hT.below h
    have hbw : RowKit.Below w.heap.size w W := ⟨hLI.gr.os.trans hJ5.1.os, hLI.gr.tape.trans hJ5.1.tape, hLI.gr.output.trans hJ5.1.output, Nat.le_trans hw5 hLI.gr.size, fun k hk => (hLI.gr.block k (by omega) (by omega)).trans (hJ5.1.block k hk)⟩
    have hli : ∀ w', Tb w' → Calls Tryd.prog 33 #[str (x :: r)] w' fun e w'' => e = .returned (str (lnL x r)) ∧ RowKit.Below w'.heap.size w' w'' := fun w' h => lines_any h x r (by simp only [List.length_cons] at hm3; omega)
    generalize lnL x r = ln at *
    have hB : rfB (cfQ (ksR Tryd.f22) (fillF (scrF 16 liK) u 0 (liW c b)) [(0, #[.slice none 0 0])] 1) = Code.block 1 (.region 4 (regO Tryd.f22 4) true) := by kernel_rfl
    rw [hB]
    refine wpIn_block ?_
    obtain ⟨ad, cap, rfl⟩ := owns_slice hLI.own
    have hob : ¬ (Value.slice ad acc.length cap).ownBlock = some g3 := fun h => by have := (hLI.own.lt g3 h).1; omega
    have IR : SI (LS W w5.heap.size g3 (.slice ad acc.length cap) (.slice ad acc.length cap) acc) (LF W g3 (.slice ad acc.length cap)) [] β (cfC (.region 4 (regO Tryd.f22 4) true) (parV [8, 9, 5] [Z (p : Nat), str (x :: r), str (x :: r)] (fillF (scrF 16 liK) u 0 (liW c b))) [(0, #[.slice ad acc.length cap])] 1) a' W := by
      refine ⟨hfr, hdf, ⟨hLI.own, Grow.refl _ _, fun k h => .inl h⟩, ?_, ?_, ?_, ?_, by kernel_rfl⟩
      · intro q hq; simp only [List.mem_singleton] at hq; subst hq; exact hg3 ▸ hLI.row
      · intro q hq; simp only [List.mem_singleton] at hq; subst hq; simp only [hg3]; exact fun h => h.elim (fun h => h.2 rfl) hob
      · intro q hq; simp only [List.mem_singleton] at hq; subst hq; exact Nat.one_pos
      · intro q hq q' hq' hne; simp only [List.mem_singleton] at hq hq'; subst hq; subst hq'; exact absurd rfl hne
    have hTL : ∀ v w', LS W w5.heap.size g3 (.slice ad acc.length cap) v acc w' → Tb w' := fun v w' h => hTW w' ⟨h.gr.os.trans hbw.os, h.gr.tape.trans hbw.tape, h.gr.output.trans hbw.output, Nat.le_trans hbw.size h.gr.size, fun k hk => (h.gr.block k (by have := hbw.size; omega) ⟨by omega, fun e => by have := (hLI.own.lt k e).1; omega⟩).trans (hbw.block k hk)⟩
    refine drwR (T := Tb) 3 [cA Tryd.func33 hli] (LS.rs _ _ _ _ _ _) (hTL _) ⟨fun ch a a' w _ h => h⟩ IR fun a2 w2 I2 => ?_
    have hsz : (⟨ln.toArray⟩ : ByteArray).size = ln.length := str_size ln
    obtain ⟨v', w8, hr8, ho8, hg8⟩ := app_str I2.hJ.own (by have := hLI.gr.size; have := I2.hJ.gr.size; omega) ⟨ln.toArray⟩ (by rw [hsz]; rw [List.length_append] at hal1; omega)
    rw [hsz, strC, ← List.length_append, show bc acc ++ bc ln = bc (acc ++ ln) by simp [bc]] at ho8
    obtain ⟨ad8, cap8, rfl⟩ := owns_slice ho8
    refine appQ (ss := [Sum.inl (.slice ad acc.length cap), Sum.inl (str ln)]) I2 hr8 ?_
    have I8 := I2.grownL ho8 hg8 (.slice ad8 (acc ++ ln).length cap8)
    generalize hln : acc ++ ln = acc' at *
    refine goQ [] (LS.rs _ _ _ _ _ _) I8 fun β9 a9 w9 I9 hb9 => ?_
    have h9 : β9 0 = g3 := agr hb9 0 hg3
    have hrow9 := I9.rowG 0 h9 (r := #[.slice ad8 acc'.length cap8])
    refine atN ⟨KeepsFrom.of_grow I9.hJ.gr fun k o hk ho => ⟨?_, ?_⟩, .slice ad8 acc'.length cap8, hrow9, ?_, ?_⟩
    · rintro rfl
      obtain ⟨t, ht⟩ := hLI.row
      rw [ht] at hk; cases hk; cases ho
    · intro e
      rcases hLI.own.2 with ⟨h1, _⟩ | ⟨g, cp, cur, h1, h2, h3, _⟩
      · rw [h1] at e; cases e
      · rw [h1] at e; cases e; rw [h3] at hk; cases hk; cases ho
    · rw [hacc]; exact I9.hJ.own
    · refine ⟨I9.hJ.gr.os.trans hLI.gr.os, I9.hJ.gr.tape.trans hLI.gr.tape, I9.hJ.gr.output.trans hLI.gr.output, Nat.le_trans hLI.gr.size I9.hJ.gr.size, fun k hk hn => (I9.hJ.gr.block k (Nat.lt_of_lt_of_le hk hLI.gr.size) ⟨hn, fun e => ?_⟩).trans (hLI.gr.block k hk hn)⟩
      have := (hLI.own.lt k e).1
      omega
  · rintro D W a' hD ⟨v, hLI⟩ hDD htm hdf
    have hfin : (((pc 0 c).take (pc 0 c).length).flatMap lnP) = lsN c := by rw [List.take_length]; rfl
    rw [hfin] at hLI
    obtain ⟨ad, cap, rfl⟩ := owns_slice hLI.own
    have hob : ¬ (Value.slice ad (lsN c).length cap).ownBlock = some g3 := fun h => by have := (hLI.own.lt g3 h).1; omega
    have IR : SI (LS W w5.heap.size g3 (.slice ad (lsN c).length cap) (.slice ad (lsN c).length cap) (lsN c)) (LF W g3 (.slice ad (lsN c).length cap)) [{ target := .collected D, args := #[] }] β (cfQ (rfK (cfQ (ksR Tryd.f22) (fillF (scrF 16 liK) u 0 (liW c b)) [(0, #[.slice none 0 0])] 1)) (fillF (scrF 16 liK) u 0 (liW c b)) [(0, #[.slice ad (lsN c).length cap])] 1) a' W := by
      refine ⟨htm.trans I6.fr, hdf, ⟨hLI.own, Grow.refl _ _, fun k h => .inl h⟩, ?_, ?_, ?_, ?_, by kernel_rfl⟩
      · intro q hq; simp only [List.mem_singleton] at hq; subst hq; exact hg3 ▸ hLI.row
      · intro q hq; simp only [List.mem_singleton] at hq; subst hq; simp only [hg3]; exact fun h => h.elim (fun h => h.2 rfl) hob
      · intro q hq; simp only [List.mem_singleton] at hq; subst hq; exact Nat.one_pos
      · intro q hq q' hq' hne; simp only [List.mem_singleton] at hq hq'; subst hq; subst hq'; exact absurd rfl hne
    refine atK IR fun IR => ?_
    refine goQ [] (LS.rs _ _ _ _ _ _) IR fun β7 a7 w7 I7 hb7 => ?_
    refine cnvQ I7 (text_own I7.hJ.own) ?_
    have I8 := I7.same (str (lsN c))
    refine goQ [] (LS.rs _ _ _ _ _ _) I8 fun β8 a8 w8 I8 hb8 => ?_
    have hDl := (Array.getElem?_eq_some_iff.1 hDD).1
    have hD8 : w8.heap[D]? = some (.deferred (some [])) := by
      refine (I8.hJ.gr.block D hDl ⟨?_, fun e => ?_⟩).trans hDD
      · rintro rfl
        obtain ⟨t, ht⟩ := hLI.row
        rw [ht] at hDD; cases hDD
      · rcases hLI.own.2 with ⟨h1, _⟩ | ⟨g, cp, cur, h1, h2, h3, _⟩
        · rw [h1] at e; cases e
        · rw [h1] at e; cases e; rw [h3] at hDD; cases hDD
    refine outM (v := str (lsN c)) I8 hD8 ⟨rfl, ?_⟩
    have hbw : RowKit.Below w.heap.size w W := ⟨hLI.gr.os.trans hJ5.1.os, hLI.gr.tape.trans hJ5.1.tape, hLI.gr.output.trans hJ5.1.output, Nat.le_trans hw5 hLI.gr.size, fun k hk => (hLI.gr.block k (by omega) (by omega)).trans (hJ5.1.block k hk)⟩
    have hb8 : RowKit.Below w.heap.size w w8 := ⟨I8.hJ.gr.os.trans hbw.os, I8.hJ.gr.tape.trans hbw.tape, I8.hJ.gr.output.trans hbw.output, Nat.le_trans hbw.size I8.hJ.gr.size, fun k hk => (I8.hJ.gr.block k (by have := hbw.size; omega) ⟨by omega, fun e => by have := (hLI.own.lt k e).1; omega⟩).trans (hbw.block k hk)⟩
    exact hb8.trans (belowPut _ _ (by omega))
end Go.Proofs.YtoceebhnhccfdaaDoor
