/- Lists laid one behind the other, by lists; copies; accounts in which one has another amount: the program. -/
import Derived.Test.YtpjplicioidknaaJi
namespace Go.Proofs.Ytpjplicioidknaa
open Go.RowKit Go.Sort
set_option linter.unusedVariables false
set_option maxRecDepth 100000
def capOk : Value → Prop
  | .slice _ n c => n ≤ c
  | _ => False
/-- A list laid anew. -/
structure FJ (w : World) (K1 : Nat → Prop) (v : Value) (l : List Co) (w' : World) : Prop where
  bw : Below w.heap.size w w'
  kb : ∀ k, K1 k → w.heap.size ≤ k ∧ k < w'.heap.size
  sl : SlI 6 C6 K1 w' v l
  cp : capOk v
def FF (w : World) (K1 : Nat → Prop) (k : Nat) : Prop := k < w.heap.size ∨ K1 k
theorem FJ.rs (w : World) (K1 : Nat → Prop) (v : Value) (l : List Co) : Rsrc (FJ w K1 v l) (FF w K1) :=
  ⟨fun a b h g => ⟨⟨g.os.trans h.bw.os, g.tape.trans h.bw.tape, g.output.trans h.bw.output, Nat.le_trans h.bw.size g.size, fun k hk => (g.block k (Nat.lt_of_lt_of_le hk h.bw.size) (.inl hk)).trans (h.bw.block k hk)⟩, fun k hk => ⟨(h.kb k hk).1, Nat.lt_of_lt_of_le (h.kb k hk).2 g.size⟩, h.sl.keep C6.loc fun k hk => ⟨hk, g.block k (h.kb k hk).2 (.inr hk)⟩, h.cp⟩,
    fun a k h hk => hk.elim (fun hk => Nat.lt_of_lt_of_le hk h.bw.size) fun hk => (h.kb k hk).2⟩
theorem flat_len6 : ∀ (l : List Co), (l.map co6).flatten.length = l.length * 6
  | [] => rfl
  | c :: l => by rw [List.map_cons, List.flatten_cons, List.length_append, flat_len6 l, List.length_cons]; show 6 + _ = _; omega
theorem one6 {l : List Co} {u : Value} (h : u ∈ (l.map co6).flatten) : u.oneCell' = true := by
  obtain ⟨y, hy, hu⟩ := List.mem_flatten.1 h
  obtain ⟨c, _, rfl⟩ := List.mem_map.1 hy
  unfold co6 at hu
  simp only [List.mem_cons, List.not_mem_nil, or_false] at hu
  rcases hu with rfl | rfl | rfl | rfl | rfl | rfl <;> rfl
theorem coi_lt {w : World} {v : Value} {l : List Co} (h : CoI w v l) {c : Co} (hc : c ∈ l) : c.2.2 < W := by
  obtain ⟨i, hi⟩ := List.getElem?_of_mem hc
  obtain ⟨ad, cap, _, hm⟩ := h
  obtain ⟨g, off, cs, _, _, _, _, hW⟩ := hm i c hi
  exact hW
theorem coi_cells {w : World} {ad : Option Addr} {cap : Nat} {l : List Co} (h : CoI w (.slice ad l.length cap) l) (h0 : l.length ≠ 0) : ∃ a : Addr, ad = some a ∧ ∀ w', Below w.heap.size w w' → ∀ j u, ((l.map co6).flatten)[j]? = some u → w'.cell? (a.add j) = some u := by
  obtain ⟨ad', cap', he, hm⟩ := h
  cases he
  obtain ⟨c0, hc0⟩ : ∃ t, l[0]? = some t := ⟨_, List.getElem?_eq_getElem (by omega)⟩
  obtain ⟨g, off, cs, rfl, hlt, _, _, _⟩ := hm 0 c0 hc0
  refine ⟨⟨g, off, none⟩, rfl, fun w' hb j u hu => ?_⟩
  have hj := (List.getElem?_eq_some_iff.1 hu).1
  rw [flat_len6] at hj
  obtain ⟨x, hx⟩ : ∃ y, l[j / 6]? = some y := ⟨_, List.getElem?_eq_getElem (by omega)⟩
  obtain ⟨g2, off2, cs2, hq, hlt2, hca, rfl, _⟩ := hm (j / 6) x hx
  cases hq
  obtain ⟨c, hc⟩ : ∃ c, (co6 x)[j % 6]? = some c := ⟨_, List.getElem?_eq_getElem (by show j % 6 < 6; omega)⟩
  have hf := flat_sz (sz := 6) (X := l.map co6) (i := j / 6) hc (fun y hy => by obtain ⟨c, _, rfl⟩ := List.mem_map.1 hy; rfl) (by rw [List.getElem?_map, hx]; rfl)
  rw [show j / 6 * 6 + j % 6 = j by omega, hu] at hf
  cases hf
  rw [add_off, show off + j = off + j / 6 * 6 + j % 6 by omega]
  exact hca.keep (hb.block g hlt) _ _ hc
/-- Slices, one beside the other. -/
abbrev Tri : Type := Option Addr × Nat × List Co
abbrev triV (t : Tri) : Value := .slice t.1 t.2.2.length t.2.1
theorem tl_n (T : List Tri) : ∀ i, i ≤ T.length → tlN (fun i => ((T[i]?).map fun t => t.2.2.length).getD 0) i = ((T.take i).flatMap fun t => t.2.2).length
  | 0, _ => rfl
  | i + 1, h => by
    obtain ⟨t, ht⟩ : ∃ t, T[i]? = some t := ⟨_, List.getElem?_eq_getElem (by omega)⟩
    show tlN _ i + _ = _
    rw [tl_n T i (by omega), List.take_add_one, ht]
    simp [ht]
theorem tl_x (T : List Tri) : ∀ i, i ≤ T.length → tlX (fun i => ((T[i]?).map fun t => (t.2.2.map co6).flatten).getD []) i = (((T.take i).flatMap fun t => t.2.2).map co6).flatten
  | 0, _ => rfl
  | i + 1, h => by
    obtain ⟨t, ht⟩ : ∃ t, T[i]? = some t := ⟨_, List.getElem?_eq_getElem (by omega)⟩
    show tlX _ i ++ _ = _
    rw [tl_x T i (by omega), List.take_add_one, ht]
    simp [ht]
theorem concat_any {w : World} {g : Nat} (T : List Tri) (hM : T.length ≤ 3) (hrow : HasRow w g (T.map triV).toArray) (hs : ∀ t ∈ T, CoI w (triV t) t.2.2) (hl : ∀ t ∈ T, t.2.2.length ≤ 1000) :
    Calls Try.prog 41 #[.slice (some ⟨g, 0, none⟩) T.length T.length] w fun e w' => ∃ v K1, e = .returned v ∧ FJ w K1 v (T.flatMap fun t => t.2.2) w' := by
  have h := concat_raw (w := w) (g := g) (M := T.length) hM (fun i => ((T[i]?).map fun t => t.1).getD none) (fun i => ((T[i]?).map fun t => t.2.2.length).getD 0) (fun i => ((T[i]?).map fun t => t.2.1).getD 0) (fun i => ((T[i]?).map fun t => (t.2.2.map co6).flatten).getD []) (fun i hi w' hb => by
    obtain ⟨t, ht⟩ : ∃ t, T[i]? = some t := ⟨_, List.getElem?_eq_getElem hi⟩
    simp only [ht, Option.map_some, Option.getD_some]
    have := load1 (w := w') (g := g) (o := 0) (cs := T.map triV) (fun j c hc => by rw [(hrow.below hb).cell]; simpa using hc) i (c := triV t) (by rw [List.getElem?_map, ht]; rfl) 22 Try.underlying22 rfl
    rw [Nat.mul_one]
    exact this) (fun i => by
    cases ht : T[i]? with
    | none => exact Nat.zero_le _
    | some t => exact hl t (List.mem_of_getElem? ht)) (fun i hi => by
    obtain ⟨t, ht⟩ : ∃ t, T[i]? = some t := ⟨_, List.getElem?_eq_getElem hi⟩
    simp only [ht, Option.map_some, Option.getD_some]
    exact ⟨flat_len6 _, fun u hu => one6 hu, fun h0 => coi_cells (hs t (List.mem_of_getElem? ht)) h0⟩)
  rw [tl_n T _ (Nat.le_refl _), tl_x T _ (Nat.le_refl _), List.take_length] at h
  refine h.mono fun e w' he => ?_
  obtain ⟨ad, cap, rfl, hro⟩ := he
  have hmem : ∀ c ∈ (T.flatMap fun t => t.2.2), c.2.2 < W := fun c hc => by
    obtain ⟨t, ht, hct⟩ := List.mem_flatMap.1 hc
    exact coi_lt (hs t ht) hct
  generalize (T.flatMap fun t => t.2.2) = out at *
  have Q : QJ C6 w 41 6 (.slice ad out.length cap) (out.map co6) out noK w' := by
    refine ⟨by rw [List.length_map]; exact hro, fun k hk => hk.elim, by simp, fun i x t h1 h2 => ?_⟩
    rw [List.getElem?_map, h2] at h1
    cases h1
    exact ⟨rfl, rfl, hmem t (List.mem_of_getElem? h2)⟩
  refine ⟨_, fun k => noK k ∨ (Value.slice ad out.length cap).ownBlock = some k, rfl, hro.bel, Q.kb2, Q.done C6.loc, ?_⟩
  rcases hro.own.2 with ⟨he, _⟩ | ⟨g, cap', cur, he, _, _, hnc, _⟩
  · simp only [Value.slice.injEq] at he; show out.length ≤ cap; omega
  · cases he; exact hnc
theorem coi_nil (w : World) : CoI w (.slice none 0 0) [] := SlI.nil _ _
theorem bs64_1 (a : Value) (ad : Option Addr) (n c : Nat) (ha : a = .slice ad n c) (w : World) : (Instr.buildSlice 64 1 #[(0, a)]).run Try.prog w = .ok (.slice (some ⟨w.heap.size, 0, none⟩) 1 1) (w.alloc (.cells #[a] 22)) := by subst ha; kernel_rfl
theorem bs64_3 (a b : Option Addr) (n c n2 c2 : Nat) (d : Option Addr) (n3 c3 : Nat) (w : World) : (Instr.buildSlice 64 3 #[(0, .slice a n c), (1, .slice b n2 c2), (2, .slice d n3 c3)]).run Try.prog w = .ok (.slice (some ⟨w.heap.size, 0, none⟩) 3 3) (w.alloc (.cells #[.slice a n c, .slice b n2 c2, .slice d n3 c3] 22)) := by kernel_rfl
theorem bs22_1 (c : Co) (w : World) : (Instr.buildSlice 22 1 #[(0, coV c)]).run Try.prog w = .ok (.slice (some ⟨w.heap.size, 0, none⟩) 1 1) (w.alloc (.cells (co6 c).toArray 41)) := by
  obtain ⟨x, y, n⟩ := c
  unfold coV co6
  simp only []
  generalize l0 n = n0
  generalize l1 n = n1
  generalize l2 n = n2
  generalize l3 n = n3
  kernel_rfl
/-- What a call leaves that lays a list anew. -/
theorem SI.fj {J : World → Prop} {F : Nat → Prop} {ds : List Deferred} {β : Nat → Nat} {c : Cf} {a : Act} {w0 w w' : World} {K1 : Nat → Prop} {v : Value} {l : List Co} (I : SI J F ds β c a w) (h : FJ w K1 v l w') (hb : Below w0.heap.size w0 w) (hF : ∀ k, k < w0.heap.size → F k) (r : Value) : SI (FJ w0 K1 v l) (FF w0 K1) ds β (nxtQ c r) (a.put (dstQ c) r) w' := by
  refine I.moved (Grow.of_below h.bw) ⟨hb.trans (h.bw.mono hb.size), fun k hk => ⟨Nat.le_trans hb.size (h.kb k hk).1, (h.kb k hk).2⟩, h.sl, h.cp⟩ (fun k hk hF' => ?_) r
  rcases hF' with hq | hq
  · exact hF k hq
  · have := (h.kb k hq).1; omega
theorem copied_any {w : World} {v : Value} {l : List Co} (h : CoI w v l) (hl : l.length ≤ 1000) : Calls Try.prog 30 #[v] w fun e w' => ∃ v' K1, e = .returned v' ∧ FJ w K1 v' l w' := by
  obtain ⟨ad, cap, hv⟩ := h.slice
  have hC := fun (g : Nat) (w' : World) (hb : Below w.heap.size w w') (hr : HasRow w' g #[.slice ad l.length cap]) => concat_any (w := w') (g := g) [(ad, cap, l)] (by simp) (by simpa using hr) (fun t ht => by rw [List.mem_singleton.1 ht]; rw [hv] at h; exact h.below C6.loc hb) (fun t ht => by rw [List.mem_singleton.1 ht]; exact hl)
  have e : ([(ad, cap, l)].flatMap fun t : Tri => t.2.2) = l := by simp
  rw [e] at hC
  subst hv
  refine inQ (J := Below w.heap.size w) (F := (· < w.heap.size)) Try.func30 (Below.refl _ _) fun a I => ?_
  refine goQ [] (nonR w) I fun β a w1 I hb => ?_
  refine bslQ (ss := [(0, Sum.inl (.slice ad l.length cap))]) I (bs64_1 _ ad l.length cap rfl w1) ?_
  have I2 := I.alloc (nonR w) (.cells #[.slice ad l.length cap] 22) (.slice (some ⟨w1.heap.size, 0, none⟩) 1 1)
  refine mcall (f := 41) (ss := [Sum.inl (.slice (some ⟨w1.heap.size, 0, none⟩) 1 1)]) Try.func41 I2 ((hC w1.heap.size _ I2.hJ (HasRow.last rfl)).mono fun e w3 he => ?_)
  obtain ⟨v', K1, rfl, hj⟩ := he
  refine goQ [] (FJ.rs w K1 v' l) (I2.fj hj I2.hJ (fun k h => h) v') fun β4 a4 w4 I4 hb4 => ?_
  exact outQ (v := v') I4 ⟨v', K1, rfl, I4.hJ⟩
theorem sl_to (ad : Option Addr) (n cap k : Nat) (h : k ≤ cap) (w : World) : (Instr.sliceAt 22 (.slice ad n cap) none (some (Z k)) none).run Try.prog w = .ok (.slice ad k cap) w := by
  rw [run_sliceAt_slice w 22 _ _ _ _ Try.underlying22, run_slice_h w 22 ad n cap Try.underlying22 .i64 k (by omega) (by omega)]
  have hs : (sizeOf (Try.prog.elem 22)).run Try.prog w = .ok 6 w := by kernel_rfl
  rw [hs]
  have e : (if cap = 0 then ad else ad.map (·.add (0 * 6))) = ad := by
    split
    · rfl
    · cases ad with
      | none => rfl
      | some a => obtain ⟨b, o, q⟩ := a; rfl
  simp only [Result.andThen_ok, sliced, e]
  rfl
def adF (ad : Option Addr) (cap k : Nat) : Option Addr := if cap = k then ad else ad.map (·.add (k * 6))
theorem sl_from (ad : Option Addr) (n cap k : Nat) (h : k ≤ n) (w : World) : (Instr.sliceAt 22 (.slice ad n cap) (some (Z k)) none none).run Try.prog w = .ok (.slice (adF ad cap k) (n - k) (cap - k)) w := by
  rw [run_sliceAt_slice w 22 _ _ _ _ Try.underlying22, run_slice_l w 22 ad n cap Try.underlying22 .i64 k (by omega) (by omega)]
  have hs : (sizeOf (Try.prog.elem 22)).run Try.prog w = .ok 6 w := by kernel_rfl
  rw [hs]
  rfl
theorem coi_take {w : World} {ad : Option Addr} {cap : Nat} {l : List Co} (h : CoI w (.slice ad l.length cap) l) (k : Nat) (hk : k ≤ l.length) : CoI w (.slice ad k cap) (l.take k) := by
  obtain ⟨ad', cap', he, hm⟩ := h
  cases he
  refine ⟨ad, cap, by rw [List.length_take, Nat.min_eq_left hk], fun i x hi => ?_⟩
  rw [List.getElem?_take] at hi
  split at hi
  · exact hm i x hi
  · cases hi
theorem coi_drop {w : World} {ad : Option Addr} {cap : Nat} {l : List Co} (h : CoI w (.slice ad l.length cap) l) (hc : l.length ≤ cap) (k : Nat) : CoI w (.slice (adF ad cap k) (l.length - k) (cap - k)) (l.drop k) := by
  obtain ⟨ad', cap', he, hm⟩ := h
  cases he
  refine ⟨_, _, by rw [List.length_drop], fun i x hi => ?_⟩
  rw [List.getElem?_drop] at hi
  obtain ⟨g, off, cs, rfl, hlt, hca, hC⟩ := hm _ x hi
  have hlt2 := (List.getElem?_eq_some_iff.1 hi).1
  refine ⟨g, off + k * 6, cs, ?_, hlt, ?_, hC⟩
  · unfold adF
    rw [if_neg (by omega)]
    simp [add_off]
  · rw [show off + k * 6 + i * 6 = off + (k + i) * 6 by omega]
    exact hca
theorem coi_one {w : World} {b : Nat} {c : Co} (h : w.heap[b]? = some (.cells (co6 c).toArray 41)) (hn : c.2.2 < W) : CoI w (.slice (some ⟨b, 0, none⟩) 1 1) [c] := by
  have hr : HasRow w b (co6 c).toArray := ⟨41, h⟩
  refine ⟨_, _, rfl, fun i x hi => ?_⟩
  have hi0 : i = 0 := by
    have := (List.getElem?_eq_some_iff.1 hi).1
    simpa using this
  subst hi0
  cases hi
  exact ⟨b, 0, co6 c, rfl, hr.lt, fun j u hu => by rw [hr.cell]; simpa using hu, rfl, hn⟩
end Go.Proofs.Ytpjplicioidknaa
