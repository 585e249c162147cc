/- Lists laid anew as rows of one's own; drawn regions that lay memory and store into it; rows of function values. -/
import Derived.Test.YtdiblfgnnliifaaTg
import Derived.Test.YtdiblfgnnliifaaYp
namespace Go.Proofs.Ytdiblfgnnliifaa
open Go.RowKit Go.Sort
set_option linter.unusedVariables false
set_option maxRecDepth 100000
theorem concat_ro {w : World} {g : Nat} {ad : Option Addr} {cap : Nat} {l : List Al} (hrow' : HasRow w g #[.slice ad l.length cap]) (hal : AlI w (.slice ad l.length cap) l) (hll : l.length ≤ 1000) :
    Calls Try.prog 18 #[.slice (some ⟨g, 0, none⟩) 1 1] w fun e w' => ∃ ad cap, e = .returned (.slice ad l.length cap) ∧ RO w w.heap.size 39 8 (.slice ad l.length cap) l.length (l.map al8).flatten w' := by
  obtain ⟨T, hT⟩ : ∃ T : List Tri, T = [(ad, cap, l)] := ⟨_, rfl⟩
  have hM : T.length ≤ 3 := by rw [hT]; simp
  have hrow : HasRow w g (T.map triV).toArray := by rw [hT]; exact hrow'
  have hs : ∀ t ∈ T, AlI w (triV t) t.2.2 := fun t ht => by rw [hT] at ht; rw [List.mem_singleton.1 ht]; exact hal
  have hl : ∀ t ∈ T, t.2.2.length ≤ 1000 := fun t ht => by rw [hT] at ht; rw [List.mem_singleton.1 ht]; exact hll
  have h := concat_raw (w := w) (g := g) (M := T.length) hM (fun i => ((T[i]?).map fun t => t.1).getD none) (fun i => ((T[i]?).map fun t => t.2.2.length).getD 0) (fun i => ((T[i]?).map fun t => t.2.1).getD 0) (fun i => ((T[i]?).map fun t => (t.2.2.map al8).flatten).getD []) (fun i hi w' hb => by
    obtain ⟨t, ht⟩ : ∃ t, T[i]? = some t := ⟨_, List.getElem?_eq_getElem hi⟩
    simp only [ht, Option.map_some, Option.getD_some]
    have := load1 (w := w') (g := g) (o := 0) (cs := T.map triV) (fun j c hc => by rw [(hrow.below hb).cell]; simpa using hc) i (c := triV t) (by rw [List.getElem?_map, ht]; rfl) 22 Try.underlying22 rfl
    rw [Nat.mul_one]
    exact this) (fun i => by
    cases ht : T[i]? with
    | none => exact Nat.zero_le _
    | some t => exact hl t (List.mem_of_getElem? ht)) (fun i hi => by
    obtain ⟨t, ht⟩ : ∃ t, T[i]? = some t := ⟨_, List.getElem?_eq_getElem hi⟩
    simp only [ht, Option.map_some, Option.getD_some]
    exact ⟨flat_len8 _, fun u hu => one8 hu, fun h0 => ali_cells (hs t (List.mem_of_getElem? ht)) h0⟩)
  rw [tl_n T _ (Nat.le_refl _), tl_x T _ (Nat.le_refl _), List.take_length] at h
  have e : (T.flatMap fun t => t.2.2) = l := by rw [hT]; simp
  rw [e] at h
  subst hT
  exact h
section
variable {w0 : World} {b : Nat} {K : Nat → Prop} {Fs : List Lf} {O : List Ow} {ds : List Deferred} {β : Nat → Nat} {c : Cf} {a : Act} {w w' : World} {Q : Exit → Act → World → Prop}
/-- A list laid anew is a row of one's own. -/
theorem GS.newO (h : GS w0 w0 b noK K Fs [] w) {v : Value} {l : List Al} (r : RO w w.heap.size 39 8 v l.length (l.map al8).flatten w') : GS w0 w0 b noK K Fs [alO v l] w' := by
  have h2 := h.below r.bel
  refine ⟨h2.bw, h2.rs, h2.bs, h2.kk, h2.nc, h2.kb, h2.lo, h2.sl, fun o ho => ?_, fun o ho k hk => ?_, List.pairwise_singleton _ _⟩
  · rw [List.mem_singleton.1 ho]
    have := own_low r.own h.bs
    simpa using this
  · rw [List.mem_singleton.1 ho] at hk
    have := (r.own.lt k hk).1
    exact ⟨fun hq => by have := h.kb k hq; omega, fun h => h⟩
theorem SI.newO (I : SI (GS w0 w0 b noK K Fs []) (GF noK K []) ds β c a w) {v : Value} {l : List Al} (r : RO w w.heap.size 39 8 v l.length (l.map al8).flatten w') : SI (GS w0 w0 b noK K Fs [alO v l]) (GF noK K [alO v l]) ds β (nxtQ c v) (a.put (dstQ c) v) w' := by
  refine I.moved (Grow.of_below r.bel) (I.hJ.newO r) (fun k hk hF => ?_) v
  rcases hF with hF | ⟨o, ho, hq⟩ | hF
  · exact .inl hF
  · rw [List.mem_singleton.1 ho] at hq
    have := (r.own.lt k hq).1
    omega
  · exact .inr (.inr hF)
/-- One list is laid anew: the region that does it. -/
theorem copyO {ad : Option Addr} {cap i : Nat} {l : List Al} (hi : Fs[i]? = some (alF (.slice ad l.length cap) l)) (hl : l.length ≤ 1000) (I : SI (GS w0 w0 b noK K Fs []) (GF noK K []) ds β c a w)
    (k : ∀ g ad' cap' a' w', SI (GS w0 w0 b noK K Fs [alO (.slice ad' l.length cap') l]) (GF noK K [alO (.slice ad' l.length cap') l]) ds β (nxtQ (nxtQ c (.slice (some ⟨g, 0, none⟩) 1 1)) (.slice ad' l.length cap')) a' w' → At Try.prog Q (nxtQ (nxtQ c (.slice (some ⟨g, 0, none⟩) 1 1)) (.slice ad' l.length cap')) a' w')
    (hc1 : bsQ c = some (59, 1, [(0, Sum.inl (.slice ad l.length cap))]) := by kernel_rfl) (hc2 : ∀ g, callQ (nxtQ c (.slice (some ⟨g, 0, none⟩) 1 1)) = some (18, [Sum.inl (.slice (some ⟨g, 0, none⟩) 1 1)]) := by intro g; kernel_rfl) : At Try.prog Q c a w := by
  refine bslQ (ss := [(0, Sum.inl (.slice ad l.length cap))]) I (bs59_1 ad l.length cap w) ?_ hc1
  have I2 := I.alloc (GS.rsr _ _ _ _ _ _ _) (.cells #[.slice ad l.length cap] 22) (.slice (some ⟨w.heap.size, 0, none⟩) 1 1)
  refine mcall (f := 18) (ss := [Sum.inl (.slice (some ⟨w.heap.size, 0, none⟩) 1 1)]) Try.func18 I2 ((concat_ro (HasRow.last rfl) (I2.hJ.al hi) hl).mono fun e w3 he => ?_) (hc2 _)
  obtain ⟨ad', cap', rfl, hro⟩ := he
  exact k _ ad' cap' _ w3 (I2.newO hro)
theorem GS.newA {b : Nat} {w : World} {v : Value} {l : List Al} (h : GS w w b noK K Fs [alO v l] w') (hl : Lt l) : NW w [alF v l] w' := by
  refine ⟨h.bw, fun k => v.ownBlock = some k, fun k hk => ?_, fun f hf => ?_⟩
  · have hn : ¬ k < w.heap.size := fun hlt => (h.on (alO v l) (by simp) k hk).1 (h.lo k hlt)
    exact ⟨by omega, ((h.ow (alO v l) (by simp)).lt k hk).2⟩
  · rw [List.mem_singleton.1 hf]
    exact alO_list (h.ow (alO v l) (by simp)) hl
/-- A row of one's own in its block, with other cells. -/
theorem GS.upd {g : Nat} {v v' : Value} {l l' : List Al} (h : GS w0 w0 b noK K Fs [alO v l] w) (hv : v.ownBlock = some g) (hv' : v'.ownBlock = some g) (ho : w'.ownsRow b 39 8 v' l'.length (l'.map al8).flatten) (gr : Grow (fun k => k ≠ g) w w') : GS w0 w0 b noK K Fs [alO v' l'] w' := by
  have hon := h.on _ (List.mem_singleton.2 rfl) g hv
  refine ⟨⟨gr.os.trans h.bw.os, gr.tape.trans h.bw.tape, gr.output.trans h.bw.output, Nat.le_trans h.bw.size gr.size, fun k hk => (gr.block k (Nat.lt_of_lt_of_le hk h.bw.size) fun e => hon.1 (e ▸ h.lo k hk)).trans (h.bw.block k hk)⟩, Nat.le_trans h.rs gr.size, Nat.le_trans h.bs gr.size, h.kk, fun k hk => hk.elim, fun k hk => Nat.lt_of_lt_of_le (h.kb k hk) gr.size, h.lo, fun f hf => f.loc _ _ _ _ (fun k hk => ⟨hk, gr.block k (h.kb k hk) fun e => hon.1 (e ▸ hk)⟩) (h.sl f hf), fun o ho' => ?_, fun o ho' k hk => ?_, List.pairwise_singleton _ _⟩
  · rw [List.mem_singleton.1 ho']
    simp only [List.length_map]
    exact ho
  · rw [List.mem_singleton.1 ho'] at hk
    have e : k = g := by rw [show (alO v' l').v = v' from rfl, hv'] at hk; cases hk; rfl
    rw [e]; exact hon
theorem SI.upd {g : Nat} {v v' : Value} {l l' : List Al} (I : SI (GS w0 w0 b noK K Fs [alO v l]) (GF noK K [alO v l]) ds β c a w) (hv : v.ownBlock = some g) (hv' : v'.ownBlock = some g) (ho : w'.ownsRow b 39 8 v' l'.length (l'.map al8).flatten) (gr : Grow (fun k => k ≠ g) w w') (r : Value) : SI (GS w0 w0 b noK K Fs [alO v' l']) (GF noK K [alO v' l']) ds β (nxtQ c r) (a.put (dstQ c) r) w' := by
  refine I.moved (gr.mono fun k hk => fun e => hk (.inr (.inl ⟨_, List.mem_singleton.2 rfl, by rw [e]; exact hv⟩))) (I.hJ.upd hv hv' ho gr) (fun k hk hF => ?_) r
  rcases hF with hF | ⟨o, ho', hq⟩ | hF
  · exact .inl hF
  · rw [List.mem_singleton.1 ho'] at hq
    refine .inr (.inl ⟨_, List.mem_singleton.2 rfl, ?_⟩)
    rw [show (alO v' l').v = v' from rfl, hv'] at hq
    rw [← hq]; exact hv
  · exact .inr (.inr hF)
/-- Where a row of one's own has members it lies in one block. -/
theorem GS.blk {ad : Option Addr} {cap : Nat} {l : List Al} (h : GS w0 w0 b noK K Fs [alO (.slice ad l.length cap) l] w) (h0 : 0 < l.length) : ∃ g, ad = some ⟨g, 0, none⟩ := by
  have ho := h.ow _ (List.mem_singleton.2 rfl)
  simp only [List.length_map] at ho
  rcases ho.2 with ⟨he, hn⟩ | ⟨g, cap', cur, he, _⟩
  · omega
  · simp only [Value.slice.injEq] at he
    exact ⟨g, he.1⟩
theorem GS.oRow {v : Value} {l : List Al} (h : GS w0 w0 b noK K Fs [alO v l] w) : w.ownsRow b 39 8 v l.length (l.map al8).flatten := by
  have ho := h.ow _ (List.mem_singleton.2 rfl)
  simp only [List.length_map] at ho
  exact ho
/-- A row of function values. -/
def fnF (g : Nat) (fs : Array Value) : Lf := ⟨fun K w => K g ∧ HasRow w g fs, fun K K' w w' h H => by
  obtain ⟨h1, t, h2⟩ := H
  exact ⟨(h g h1).1, t, by rw [(h g h1).2]; exact h2⟩⟩
theorem nw_fn (fs : Array Value) (w : World) : NW w [fnF w.heap.size fs] (w.alloc (.cells fs 50)) := by
  refine ⟨below_alloc w _, fun k => k = w.heap.size, fun k hk => ?_, fun f hf => ?_⟩
  · subst hk; simp
  · rw [List.mem_singleton.1 hf]
    exact ⟨rfl, HasRow.last rfl⟩
theorem fn_ld {g : Nat} {fs : Array Value} {i : Nat} {f : Value} (h : GS w0 w0 b noK K Fs O w) {j : Nat} (hj : Fs[j]? = some (fnF g fs)) (hf : fs[i]? = some f) : (loadVar 50 ⟨g, 0 + i * 1, none⟩).run Try.prog w = .ok f w := by
  obtain ⟨_, hr⟩ := h.at j hj
  have := load1 (w := w) (g := g) (o := 0) (cs := fs.toList) (fun j c hc => by rw [hr.cell]; simpa using hc) i (c := f) (by simpa using hf) 50 Try.underlying50 rfl
  rw [Nat.mul_one]
  exact this
theorem bs62_2 (a b c d e f : Value) (w : World) : (Instr.buildSlice 62 2 #[(0, .func (.func 19) #[] #[a, b, c]), (1, .func (.func 22) #[] #[d, e, f])]).run Try.prog w = .ok (.slice (some ⟨w.heap.size, 0, none⟩) 2 2) (w.alloc (.cells #[.func (.func 19) #[] #[a, b, c], .func (.func 22) #[] #[d, e, f]] 50)) := by kernel_rfl
theorem bs62_3 (a b c d e f g h i j : Value) (w : World) : (Instr.buildSlice 62 3 #[(0, .func (.func 28) #[] #[a, b, c, d]), (1, .func (.func 30) #[] #[e, f, g]), (2, .func (.func 32) #[] #[h, i, j])]).run Try.prog w = .ok (.slice (some ⟨w.heap.size, 0, none⟩) 3 3) (w.alloc (.cells #[.func (.func 28) #[] #[a, b, c, d], .func (.func 30) #[] #[e, f, g], .func (.func 32) #[] #[h, i, j]] 50)) := by kernel_rfl
end
section
variable {J : World → Prop} {F : Nat → Prop} {ds : List Deferred} {β : Nat → Nat} {c : Cf} {a : Act} {w : World} {Q : Exit → Act → World → Prop}
def storesB (ops : Array Oper) (m : Nat) : Bool := (List.range ops.size).all fun n => decide (n < m) || (match ops[n]? with
  | some o => match o.op with
    | .store .. => true
    | _ => false
  | none => true)
theorem stores_no {ops : Array Oper} {m : Nat} (h : storesB ops m = true) (n : Nat) (o : Oper) (hn : m ≤ n) (ho : ops[n]? = some o) : NoD Try.prog o := by
  have hlt := (Array.getElem?_eq_some_iff.1 ho).1
  have := List.all_eq_true.1 h n (List.mem_range.2 hlt)
  rw [decide_eq_false (by omega), Bool.false_or, ho] at this
  simp only [] at this
  split at this
  · next t x y hop => exact noD_store hop
  · cases this
/-- A drawn region that lays a block, and stores into it at its end. -/
theorem dwL {T : World → Prop} (ia t d : Nat) (z : Array Value) (fs : List (Fa Try.prog T)) (R : Rsrc J F) (hT : ∀ w, J w → T w) (I : SI J F ds β c a w)
    (k : ∀ (b : Nat) (vs : Nat → Value) β' a' w', Agree c.nx β β' → SI J F ds β' (adC (dnC Try.prog (ia + 1) [(ia, none)] fs c (fun j => if j = ia then .pointer (some ⟨b, 0, none⟩) else vs j)) d z) a' w' → At Try.prog Q (adC (dnC Try.prog (ia + 1) [(ia, none)] fs c (fun j => if j = ia then .pointer (some ⟨b, 0, none⟩) else vs j)) d z) a' w')
    (hz : zeV Try.prog t = some z := by kernel_rfl) (h1 : ((opsD c)[ia]?).map (fun o => (o.op, o.dst, o.guard)) = some (.alloc t, some d, none) := by kernel_rfl) (hst : storesB (opsD c) (ia + 1) = true := by kernel_rfl) (h7 : decide (ia < (opsD c).size) = true := by kernel_rfl)
    (h8 : ∀ (b : Nat) (vs : Nat → Value), ((dnC Try.prog (ia + 1) [(ia, none)] fs c (fun j => if j = ia then .pointer (some ⟨b, 0, none⟩) else vs j)).tm[d]?).join = some (Sum.inl (.pointer (some ⟨b, 0, none⟩))) := by intro b vs; kernel_rfl)
    (hs : (dnX Try.prog (ia + 1) [(ia, none)] fs c).isSome = true := by kernel_rfl) (he : (dnX Try.prog (ia + 1) [(ia, none)] fs c).map (fun r => r.2.map (·.1)) = (dnX Try.prog (ia + 1) [(ia, none)] fs c).map (fun r => r.2.map (·.2)) := by kernel_rfl) : At Try.prog Q c a w := by
  refine dwN (ia + 1) [(ia, none)] (stores_no hst) fs (fun i v w' => i = ia → ∃ b, v = .pointer (some ⟨b, 0, none⟩) ∧ w.heap.size ≤ b ∧ HasRow w' b z) (fun i v w' w'' h hb hi => by
    obtain ⟨b, q1, q2, q3⟩ := h hi
    exact ⟨b, q1, q2, q3.below hb⟩) R hT I ?_ ?_ (by kernel_rfl) hs he
  · intro p hp o ho listed vs a' w' hF hrd hbw hV hev
    rw [List.mem_singleton.1 hp] at ho ⊢
    obtain ⟨o1, o2, o3⟩ := opD_get ho h1
    exact allocG o1 o3 hz (by kernel_rfl) fun w2 hb2 hr => ⟨_, rfl, fun u hu => (by cases hu), fun _ => ⟨_, rfl, hbw.size, hr⟩, hb2⟩
  · intro vs a' w' hV I'
    obtain ⟨b, e1, e2, e3⟩ := hV (ia, none) (List.mem_singleton.2 rfl) (of_decide_eq_true h7) rfl
    obtain ⟨vs', rfl⟩ : ∃ vs', vs = fun j => if j = ia then .pointer (some ⟨b, 0, none⟩) else vs' j := ⟨vs, funext fun j => by split <;> rename_i hj <;> simp [hj, e1]⟩
    refine adopt d (g := b) (r := z) I' (h8 b vs') e3 (fun h => by
      have := R.lt w b I.hJ h
      omega) (fun p hp e => by
      have := (I.row p hp).lt
      omega) fun β10 hag hb10 I => ?_
    exact k b vs' β10 a' w' hag I
end
end Go.Proofs.Ytdiblfgnnliifaa
