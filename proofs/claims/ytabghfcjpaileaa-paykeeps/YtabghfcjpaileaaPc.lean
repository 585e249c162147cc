/- A loop over a function whose iterator has cells of its own, and whose rounds change rows. -/
import Derived.Test.YtabghfcjpaileaaPb
import Derived.Test.YtabghfcjpaileaaKi
namespace Go.Proofs.Ytabghfcjpaileaa
open Go.RowKit Go.Sort
set_option linter.unusedVariables false
set_option maxRecDepth 100000
/-- What an iterator that hands out N members owes its caller, whose rounds change what lies below the iterator's own blocks, and blocks of M. -/
def SeqM (n : Nat) (P : Program) (g : Nat) (lb : Array Value) (encs : Nat → Array Value) (N : Nat) (X : World → Prop) : Prop :=
  ∀ (l : Nat) (J : Nat → (Nat → Prop) → World → Prop) (M0 : Nat → Prop) (W : World), (∀ i M A B, J i M A → Grow (fun k => k < W.heap.size ∨ M k) A B → J i M B) → (∀ i M A, J i M A → W.heap.size ≤ A.heap.size) → (∀ i M A k, J i M A → M k → k < A.heap.size) → (∀ i M A, J i M A → X A) →
    (∀ i M W1, i < N → J i M W1 → YieldAt Fence.wide (n - 1) P l (encs i) W1 fun e W' => e = .returned (.bool true) ∧ ∃ M', J (i + 1) M' W' ∧ Grow (fun k => ¬ (k < W.heap.size ∨ M k)) W1 W' ∧ ∀ k, M' k → M k ∨ W1.heap.size ≤ k) →
    J 0 M0 W → CallsIn Fence.wide n P g (#[.func (.yield l) #[] #[]] ++ lb) W fun e W' => (∃ v, e = .returned v) ∧ ∃ M, J N M W'
/-- What a round owes. -/
def postM (B : Nat) (I : Nat → (Nat → Prop) → World → Prop) (i : Nat) (M : Nat → Prop) (W1 W : World) : Exit → Act → World → Prop
  | .normal, _, W' => KeepsFrom B W W' ∧ ∃ M', I (i + 1) M' W' ∧ Grow (fun k => k < W1.heap.size ∧ ¬ (k < B + 2 ∨ M k)) W W' ∧ ∀ k, M' k → M k ∨ W1.heap.size ≤ k
  | _, _, _ => False
theorem range_m {P : Program} {n : Nat} {g : Operand} {ps : Array Tmp} {assign body : Code} {Q : Exit → Act → World → Prop} {a : Act} {w : World}
    (h1 : 1 ≤ n) {gf : Nat} {lb : Array Value} (hg : a.eval g = .func (.func gf) #[] lb) (eg : ∀ args w, (callFunc gf args).run P w = .ok (.enter gf args) w)
    {encs : Nat → Array Value} {N : Nat} {X : World → Prop} (hseq : SeqM (n - 1) P gf lb encs N X)
    (hps : ∀ i, (encs i).size = ps.size)
    (I : Nat → (Nat → Prop) → World → Prop) (M0 : Nat → Prop) (hX : ∀ i M A, I i M A → X A) (hM : ∀ i M A k, I i M A → M k → w.heap.size + 2 ≤ k ∧ k < A.heap.size)
    (hI : ∀ i M A B, I i M A → RowKit.Below w.heap.size A B → (∀ (k : Nat) (o : Obj), M k → A.heap[k]? = some o → o.isCells = true → B.heap[k]? = some o) → I i M B) (h0 : ∀ W1, RowKit.Below w.heap.size w W1 → W1.heap.size = w.heap.size + 2 → I 0 M0 W1)
    (Ax : Nat → (Nat → Prop) → World → Act → World → Prop) (hAx : ∀ i M W1 a' W l o o', w.heap.size ≤ l → l < w.heap.size + 2 → W.heap[l]? = some o → o.isCells = false → Ax i M W1 a' W → Ax i M W1 a' (W.putObj l o'))
    (hassign : ∀ (l i : Nat) (M : Nat → Prop) (W : World) (K : Act → World → Prop), i < N → I i M W → w.heap.size + 2 ≤ W.heap.size → (∀ a' W', RowKit.Below W.heap.size W W' → Ax i M W a' W' → K a' W') →
      assign.wpIn (Fence.wide.inRound l) (n - 1 - 1) P (Exit.then K (fun _ _ _ => False)) { tmps := (ps.zip (encs i)).foldl (fun t (p, v) => t.setIfInBounds p v) a.tmps, defers := [] } W)
    (hbody : ∀ (l i : Nat) (M : Nat → Prop) (W1 : World) (a' : Act) (W : World), i < N → w.heap.size + 2 ≤ W1.heap.size → W1.heap.size ≤ W.heap.size → Ax i M W1 a' W → body.wpIn (Fence.wide.inRound l) (n - 1 - 1) P (postM w.heap.size I i M W1 W) a' W)
    (hdone : ∀ (D : Nat) (M : Nat → Prop) (W : World), w.heap.size ≤ D → I N M W → W.heap[D]? = some (.deferred (some [])) → Q .normal { a with defers := { target := .collected D, args := #[] } :: a.defers } W) :
    (Code.rangeFunc g ps assign body).wpIn Fence.wide n P Q a w := by
  refine wpIn_rangeFunc ?_
  intro fn hfn
  rw [Fence.wide_round]
  obtain ⟨rec, hrec⟩ : ∃ rec : LoopState → Option Code → Loop, rec = fun st pe => { state := st, pending := pe, fn, tmps := a.tmps, params := ps, assign, body, defers := w.heap.size } := ⟨_, rfl⟩
  obtain ⟨W1, hW1⟩ : ∃ W1, (w.alloc (.deferred (some []))).alloc (.loop (rec .ready none)) = W1 := ⟨_, rfl⟩
  have hs1 : W1.heap.size = w.heap.size + 2 := by rw [← hW1]; simp
  have hL1 : W1.heap[w.heap.size + 1]? = some (.loop (rec .ready none)) := by
    rw [← hW1]; have := World.alloc_heap_new (w.alloc (.deferred (some []))) (.loop (rec .ready none)); rwa [World.size_alloc] at this
  have hK1 : W1.heap[w.heap.size]? = some (.deferred (some [])) := by
    rw [← hW1]; exact (Below.heap_alloc _ _ _ (by simp)).trans (World.alloc_heap_new w _)
  have hb1 : RowKit.Below w.heap.size w W1 := by
    rw [← hW1]; exact ((RowKit.Below.refl _ w).alloc (Nat.le_refl _) _).alloc (by simp) _
  have hput : ∀ {i M A} (l : Nat) (o o' : Obj), w.heap.size ≤ l → A.heap[l]? = some o → o.isCells = false → I i M A → I i M (A.putObj l o') := fun {i M A} l o o' hl ho hc hi =>
    hI i M A _ hi (belowPut A o' hl) fun k q hk hq hqc => by
      refine (World.putObj_heap_other ?_).trans hq
      rintro rfl
      rw [ho] at hq; cases hq; rw [hc] at hqc; cases hqc
  refine ⟨w.heap.size + 1, [{ target := .collected w.heap.size, args := #[] }], W1, { target := .fn (.func gf) lb, args := #[.func (.yield (w.heap.size + 1)) #[] #[]] }, W1, gf,
    #[.func (.yield (w.heap.size + 1)) #[] #[]] ++ lb, W1, ?_, ?_, ?_, ?_, fun _ => h1, ?_⟩
  · rw [← hW1, hrec]; exact run_enterLoop_outer _ _ _ _ _
  · simp only [resolve, hg]
    simp [go_sem]
  · intro f' _; exact trivial
  · simp [invoke, go_sem, eg]
  · refine (hseq (w.heap.size + 1)
      (fun i M W => I i M W ∧ W.heap[w.heap.size + 1]? = some (.loop (rec .ready none)) ∧ W.heap[w.heap.size]? = some (.deferred (some [])))
      M0 W1 (fun i M A B hs hg => by
        rw [hs1] at hg
        have q := (Array.getElem?_eq_some_iff.1 hs.2.1).1
        refine ⟨hI i M A B hs.1 ⟨hg.os, hg.tape, hg.output, hg.size, fun k hk => hg.block k (by omega) (.inl (by omega))⟩ (fun k o hk ho _ => (hg.block k (hM i M A k hs.1 hk).2 (.inr hk)).trans ho), (hg.block _ q (.inl (by omega))).trans hs.2.1, (hg.block _ (by omega) (.inl (by omega))).trans hs.2.2⟩)
      (fun i M A hs => by
        have q := (Array.getElem?_eq_some_iff.1 hs.2.1).1
        omega) (fun i M A k hs hk => (hM i M A k hs.1 hk).2) (fun i M A h => hX i M A h.1) ?_ ⟨h0 W1 hb1 hs1, hL1, hK1⟩).mono ?_
    · rintro i M W hiN ⟨hi, hl, hk⟩
      have hy := run_yield (P := P) (args := encs i) hl (by rw [hrec]; exact hps i)
      rw [hrec] at hy
      have hWs : w.heap.size + 2 ≤ W.heap.size := (Array.getElem?_eq_some_iff.1 hl).1
      refine ⟨fn, _, assign, body, hy, roundIn_of_wpIn hfn (hassign _ i M W _ hiN hi hWs ?_)⟩
      clear hy
      intro a' Wa hba hax
      replace hl := (hba.block _ (by omega)).trans hl
      replace hk := (hba.block _ (by omega)).trans hk
      have hlt : w.heap.size + 1 < Wa.heap.size := (Array.getElem?_eq_some_iff.1 hl).1
      refine ⟨_, run_beginRound hl (by rw [hrec]), ?_⟩
      have hl2 : (Wa.putObj (w.heap.size + 1) (.loop { rec .ready none with state := .busy })).heap[w.heap.size + 1]? = some (.loop { rec .ready none with state := .busy }) := World.putObj_heap_same hlt
      have hk2 : (Wa.putObj (w.heap.size + 1) (.loop { rec .ready none with state := .busy })).heap[w.heap.size]? = some (.deferred (some [])) := (World.putObj_heap_other (by omega)).trans hk
      have hzp : (Wa.putObj (w.heap.size + 1) (.loop { rec .ready none with state := .busy })).heap.size = Wa.heap.size := by simp [World.putObj]
      refine wpIn_mono (hbody _ i M W a' _ hiN hWs (by rw [hzp]; exact hba.size) (hAx i M W a' _ _ _ _ (by omega) (by omega) hl rfl hax)) ?_
      rintro e a3 W3 hp
      cases e with
      | normal =>
        obtain ⟨hk3, M', hi3, hg3, hm3⟩ := hp
        have hl3 := hk3.same _ _ (by omega) hl2 rfl
        have hr := run_endRound (P := P) none hl3
        rw [hrec] at hr hl3
        have hq := hl3
        refine ⟨_, _, hr, rfl, M', ⟨hput _ _ _ (by omega) hq rfl hi3, ?_, ?_⟩, ?_, hm3⟩
        · rw [hrec]; exact World.putObj_heap_same (Array.getElem?_eq_some_iff.1 hl3).1
        · exact (World.putObj_heap_other (by omega)).trans (hk3.same _ _ (Nat.le_refl _) hk2 rfl)
        · rw [hs1]
          refine ⟨hg3.os.trans hba.os, hg3.tape.trans hba.tape, hg3.output.trans hba.output, ?_, fun k hk hn => ?_⟩
          · have h3 := hg3.size
            rw [hzp] at h3
            have h4 := hba.size
            simp only [World.putObj, Array.size_setIfInBounds]
            omega
          · have hkn : ¬ k = w.heap.size + 1 := fun e => hn (.inl (by omega))
            rw [World.putObj_heap_other hkn, hg3.block k (by rw [hzp]; exact Nat.lt_of_lt_of_le hk hba.size) ⟨hk, hn⟩, World.putObj_heap_other hkn]
            exact hba.block k hk
      | ret => exact hp.elim
      | exit id => exact hp.elim
      | goto t => exact hp.elim
      | panic ch => exact hp.elim
      | outgrown => exact hp.elim
    · rintro e W2 ⟨⟨v, rfl⟩, M, hi, hl, hk⟩
      exact ⟨none, _, by have := run_endLoop (P := P) hl (by rw [hrec]; simp); rw [hrec] at this; exact this, hdone _ M _ (Nat.le_refl _) (hput _ _ _ (by omega) hl rfl hi) ((World.putObj_heap_other (by omega)).trans hk)⟩
theorem own_cells {w : World} {b e sz : Nat} {v : Value} {n : Nat} {xs : List Value} (h : w.ownsRow b e sz v n xs) {k : Nat} (hk : v.ownBlock = some k) : ∃ o, w.heap[k]? = some o ∧ o.isCells = true := by
  rcases h.2 with ⟨rfl, _⟩ | ⟨g, cap, cur, rfl, hb, hg, _⟩
  · cases hk
  · simp only [Value.ownBlock, Option.some.injEq] at hk
    subst hk
    exact ⟨_, hg, rfl⟩
theorem row_cells {w : World} {g : Nat} {r : Array Value} (h : HasRow w g r) : ∃ o, w.heap[g]? = some o ∧ o.isCells = true := by
  obtain ⟨t, h⟩ := h
  exact ⟨_, h, rfl⟩
section
variable {w0 : World} {b B : Nat} {K : Nat → Prop} {Fs : List Lf} {O : List Ow} {ds : List Deferred} {β : Nat → Nat} {c : Cf} {a : Act} {W W' : World}
theorem SI.tr (I : SI (GS w0 w0 b noK K Fs O) (GF noK K O) ds β c a W) (hb : RowKit.Below B W W') (hw0 : w0.heap.size ≤ B) (hK : ∀ k, K k → k < B) (ho : ∀ k, MB O k → W'.heap[k]? = W.heap[k]?) (hr : ∀ p ∈ c.rows, W'.heap[β p.1]? = W.heap[β p.1]?) : SI (GS w0 w0 b noK K Fs O) (GF noK K O) ds β c a W' := by
  have H := I.hJ
  refine ⟨I.fr, I.df, ⟨H.bw.trans (hb.mono hw0), Nat.le_trans H.rs hb.size, Nat.le_trans H.bs hb.size, H.kk, fun k h => h.elim, fun k hk => Nat.lt_of_lt_of_le (H.kb k hk) hb.size, H.lo, fun f hf => f.loc _ _ _ _ (fun k hk => ⟨hk, hb.block k (hK k hk)⟩) (H.sl f hf), fun o hm => ?_, H.on, H.ap⟩, fun p hp => ?_, I.dis, I.lt, I.inj, I.ids⟩
  · exact owns_grow (F := MB O) (H.ow o hm) ⟨hb.os, hb.tape, hb.output, hb.size, fun k _ hk => ho k hk⟩ fun k hk => ⟨o, hm, hk⟩
  · obtain ⟨t, ht⟩ := I.row p hp
    exact ⟨t, (hr p hp).trans ht⟩
end
section
variable {P : Program} {ds : List Deferred} {β : Nat → Nat} {c : Cf} {a : Act} {w : World} {Q : Exit → Act → World → Prop}
/-- A loop over a function in a walk. -/
theorem rangeG (n : Nat) (h1 : 1 ≤ n) {gf : Nat} {fn : Func} {lb : Array Value} {encs : Nat → Array Value} {N : Nat} {X : World → Prop} (hf : P.funcs[gf]? = some fn) (hseq : SeqM (n - 1) P gf lb encs N X)
    {w0 : World} {K : Nat → Prop} {Fs : List Lf} {σ : Type} (O : Nat → σ → List Ow) (rws : Nat → σ → Rows) (s0 : σ)
    (I : SI (GS w0 w0 w0.heap.size noK K Fs (O 0 s0)) (GF noK K (O 0 s0)) ds β c a w) (hO0 : ∀ o ∈ O 0 s0, o.v = .slice none 0 0 ∧ o.X = []) (hids : ∀ i s, (rws i s).map (·.1) = (rws 0 s0).map (·.1))
    (hX : ∀ i s W, SI (GS w0 w0 (w.heap.size + 2) noK K Fs (O i s)) (GF noK K (O i s)) ds β (cfQ [] c.tm (rws i s) c.nx) a W → X W)
    (hps : ∀ i, (encs i).size = (rfP c).size) (tmA : Nat → Vs) (rwA : Nat → Rows) (nxA : Nat) (hnx : c.nx ≤ nxA)
    (hassign : ∀ (l i : Nat) (W : World) (K' : Act → World → Prop) (a' : Act), i < N → SI (RowKit.Below W.heap.size W) (· < W.heap.size) [] β (cfQ [] (parV (rfP c).toList (encs i).toList c.tm) [] c.nx) a' W → (∀ β1 a1 w1 cA, SI (RowKit.Below W.heap.size W) (· < W.heap.size) [] β1 cA a1 w1 → Agree c.nx β β1 → cA.tm = tmA i → cA.rows = rwA i → cA.nx = nxA → K' a1 w1) →
      (rfA c).wpIn (Fence.wide.inRound l) (n - 1 - 1) P (Exit.then K' (fun _ _ _ => False)) a' W)
    (hbody : ∀ (l i : Nat) (s : σ) (β1 : Nat → Nat) (a1 : Act) (WR : World) (Kp : Nat → Prop), i < N → SI (GS w0 WR (w.heap.size + 2) Kp K Fs (O i s)) (GF Kp K (O i s)) [] β1 (cfQ [] (tmA i) (rwA i ++ rws i s) nxA) a1 WR →
      (rfB c).wpIn (Fence.wide.inRound l) (n - 1 - 1) P (fun e a' w' => e = .normal ∧ ∃ s' β2 c2, Agree c.nx β1 β2 ∧ SI (GS w0 WR (w.heap.size + 2) Kp K Fs (O (i + 1) s')) (GF Kp K (O (i + 1) s')) [] β2 c2 a' w' ∧ (rws (i + 1) s').map (fun p => rowOf c2.rows p.1) = (rws (i + 1) s').map (fun p => some p.2)) a1 WR)
    (hdone : ∀ (D : Nat) (W : World) (a' : Act) (s : σ), w.heap.size ≤ D → W.heap[D]? = some (.deferred (some [])) → SI (GS w0 W (w.heap.size + 2) (fun k => k = D) K Fs (O N s)) (GF (fun k => k = D) K (O N s)) ({ target := .collected D, args := #[] } :: ds) β (cfQ (rfK c) c.tm (rws N s) c.nx) a' W → QK P Q (rfK c) .normal a' W)
    (hr0 : (rws 0 s0).map (fun p => rowOf c.rows p.1) = (rws 0 s0).map (fun p => some p.2) := by kernel_rfl)
    (hg : (rfQ c).bind (fun r => evQ c.tm r.2.1) = some (Sum.inl (.func (.func gf) #[] lb)) := by kernel_rfl) (hfb : fn.body.isNone = false := by kernel_rfl) (hfn : (fn.name == "runtime.NumGoroutine") = false := by kernel_rfl) : At P Q c a w := by
  have look : ∀ {rs0 rs1 : Rows}, rs0.map (fun p => rowOf rs1 p.1) = rs0.map (fun p => some p.2) → ∀ p ∈ rs0, p ∈ rs1 := fun {rs0 rs1} h p hp => by
    obtain ⟨i, hi⟩ := List.mem_iff_getElem?.1 hp
    have h5 := congrArg (·[i]?) h
    simp only [List.getElem?_map, hi, Option.map_some, Option.some.injEq] at h5
    exact rowOf_mem h5
  have hw0 : w0.heap.size ≤ w.heap.size := I.hJ.bw.size
  have hKw : ∀ k, K k → k < w.heap.size := I.hJ.kb
  have hid : ∀ i s, ∀ p ∈ rws i s, ∃ q ∈ c.rows, q.1 = p.1 := fun i s p hp => by
    have h2 : p.1 ∈ (rws i s).map (·.1) := List.mem_map.2 ⟨p, hp, rfl⟩
    rw [hids] at h2
    obtain ⟨q, hq, he⟩ := List.mem_map.1 h2
    exact ⟨q, look hr0 q hq, he⟩
  have hβ : ∀ i s, ∀ p ∈ rws i s, β p.1 < w.heap.size ∧ p.1 < c.nx := fun i s p hp => by
    obtain ⟨q, hq, he⟩ := hid i s p hp
    rw [← he]
    exact ⟨(I.row q hq).lt, I.lt q hq⟩
  cases hq : rfQ c with
  | none => rw [hq] at hg; cases hg
  | some r =>
    obtain ⟨id, g, ps, x, y, ks⟩ := r
    unfold rfK at hdone
    unfold rfP at hps
    unfold rfP rfA at hassign
    unfold rfB at hbody
    simp only [hq, Option.map_some, Option.getD_some, Option.bind_some] at hg hps hassign hbody hdone
    unfold rfQ at hq
    split at hq
    · next id' g' ps' x' y' ks' hd hr hk =>
      cases hq
      refine ⟨?_⟩
      unfold AtD
      rw [hd, hr, hk]
      show (Code.block id (.rangeFunc g ps x y)).wp P (QK P Q ks) a w
      refine (wpIn_wide (n := n)).1 (wpIn_block ?_)
      have hge : a.eval g = .func (.func gf) #[] lb := evQ_ok I.fr hg
      obtain ⟨bd, hbd⟩ : ∃ bd, fn.body = some bd := by
        cases hfx : fn.body with
        | none => rw [hfx] at hfb; cases hfb
        | some x => exact ⟨x, rfl⟩
      let St : Nat → (Nat → Prop) → World → Prop := fun i M W => ∃ s, M = MB (O i s) ∧ SI (GS w0 w0 (w.heap.size + 2) noK K Fs (O i s)) (GF noK K (O i s)) ds β (cfQ [] c.tm (rws i s) c.nx) a W
      refine range_m h1 hge (enters_of hf hfn hbd) hseq hps St (MB (O 0 s0)) ?_ ?_ ?_ ?_
        (fun i M W1 a' W => ∃ s β1, M = MB (O i s) ∧ Agree c.nx β β1 ∧ SI (GS w0 w0 (w.heap.size + 2) noK K Fs (O i s)) (GF noK K (O i s)) [] β1 (cfQ [] (tmA i) (rwA i ++ rws i s) nxA) a' W ∧ ∀ p ∈ rwA i, W1.heap.size ≤ β1 p.1) ?_ ?_ ?_ ?_
      · rintro i M A ⟨s, rfl, Is⟩
        exact hX i s A Is
      · rintro i M A k ⟨s, rfl, Is⟩ ⟨o, ho, hk⟩
        exact (Is.hJ.ow o ho).lt k hk
      · rintro i M A B ⟨s, rfl, Is⟩ hb hm
        refine ⟨s, rfl, Is.tr hb hw0 hKw (fun k hk => ?_) fun p hp => hb.block _ (hβ i s p hp).1⟩
        obtain ⟨o, ho, hk'⟩ := hk
        obtain ⟨q, hq1, hq2⟩ := own_cells (Is.hJ.ow o ho) hk'
        exact (hm k q ⟨o, ho, hk'⟩ hq1 hq2).trans hq1.symm
      · intro W1 hb hs
        have H := I.hJ
        refine ⟨s0, rfl, I.fr, I.df, ⟨H.bw.trans (hb.mono hw0), Nat.le_trans H.rs hb.size, by omega, fun k h => h.elim, fun k h => h.elim, fun k hk => Nat.lt_of_lt_of_le (H.kb k hk) hb.size, H.lo, fun f hf => f.loc _ _ _ _ (fun k hk => ⟨hk, hb.block k (hKw k hk)⟩) (H.sl f hf), fun o ho => ?_, H.on, H.ap⟩, fun p hp => ?_, fun p hp => I.dis p (look hr0 p hp), fun p hp => I.lt p (look hr0 p hp), fun p hp q hq => I.inj p (look hr0 p hp) q (look hr0 q hq), I.ids⟩
        · obtain ⟨e1, e2⟩ := hO0 o ho
          rw [e1, e2]
          exact World.ownsRow_nil _ _ _ _
        · obtain ⟨t, ht⟩ := I.row p (look hr0 p hp)
          exact ⟨t, (hb.block _ (hβ 0 s0 p hp).1).trans ht⟩
      · rintro i M W1 a' W l o o' hl1 hl2 ho hoc ⟨s, β1, rfl, hag, Is, hnew⟩
        have hne : ∀ (k : Nat), (∃ q : Obj, W.heap[k]? = some q ∧ q.isCells = true) → (W.putObj l o').heap[k]? = W.heap[k]? := fun k ⟨q, hq1, hq2⟩ => World.putObj_heap_other fun e => by
          subst e
          rw [ho] at hq1; cases hq1; rw [hoc] at hq2; cases hq2
        exact ⟨s, β1, rfl, hag, Is.tr (belowPut W o' hl1) hw0 hKw (fun k ⟨o, ho, hk⟩ => hne k (own_cells (Is.hJ.ow o ho) hk)) (fun p hp => hne _ (row_cells (Is.row p hp))), hnew⟩
      · rintro l i M W K' hi ⟨s, rfl, Is⟩ hsW hK'
        refine hassign l i W K' _ hi ⟨?_, rfl, RowKit.Below.refl _ _, fun p hp => (by cases hp), fun p hp => (by cases hp), fun p hp => (by cases hp), fun p hp => (by cases hp), ?_⟩ fun β1 a1 w1 cA IA hag e1 e2 e3 => ?_
        · have := parV_fr (β := β) (ps.toList.zip (encs i).toList) a.tmps c.tm I.fr
          rw [← Array.foldl_toList, Array.toList_zip]
          exact this
        · exact parV_ids _ _ I.ids
        · have hb := IA.hJ
          have hlt : ∀ k, GF noK K (O i s) k → k < W.heap.size := fun k hk => (GS.rsr w0 w0 (w.heap.size + 2) noK K Fs (O i s)).lt W k Is.hJ hk
          have Is1 := Is.tr (hb.mono (by omega)) hw0 hKw (fun k hk => hb.block k (hlt k (.inr (.inl hk)))) (fun p hp => hb.block _ (Is.row p hp).lt)
          have hge : ∀ p ∈ rwA i, W.heap.size ≤ β1 p.1 := fun p hp => Nat.le_of_not_lt fun h => IA.dis p (by rw [e2]; exact hp) h
          refine hK' a1 w1 hb ⟨s, β1, rfl, hag, ⟨?_, IA.df, Is1.hJ, fun p hp => ?_, fun p hp => ?_, fun p hp => ?_, fun p hp q hq hne => ?_, ?_⟩, hge⟩
          · rw [IA.fr, e1]
          · rcases List.mem_append.1 hp with hp | hp
            · exact IA.row p (by rw [e2]; exact hp)
            · rw [hag p.1 (hβ i s p hp).2]; exact Is1.row p hp
          · rcases List.mem_append.1 hp with hp | hp
            · intro h
              have := hlt _ h
              have := hge p hp
              omega
            · rw [hag p.1 (hβ i s p hp).2]; exact Is1.dis p hp
          · rcases List.mem_append.1 hp with hp | hp
            · have := IA.lt p (by rw [e2]; exact hp)
              rw [e3] at this
              exact this
            · exact Nat.lt_of_lt_of_le (hβ i s p hp).2 hnx
          · rcases List.mem_append.1 hp with hp | hp <;> rcases List.mem_append.1 hq with hq | hq
            · exact IA.inj p (by rw [e2]; exact hp) q (by rw [e2]; exact hq) hne
            · have h2 := hge p hp
              have h3 := (Is.row q hq).lt
              rw [hag q.1 (hβ i s q hq).2]
              omega
            · have h2 := hge q hq
              have h3 := (Is.row p hp).lt
              rw [hag p.1 (hβ i s p hp).2]
              omega
            · rw [hag p.1 (hβ i s p hp).2, hag q.1 (hβ i s q hq).2]
              exact Is.inj p hp q hq hne
          · have := IA.ids
            rw [e1, e3] at this
            exact this
      · rintro l i M W1 a' W hi hW1 hWW ⟨s, β1, rfl, hag, Is, hnew⟩
        have H := Is.hJ
        let Kp : Nat → Prop := fun k => (∃ o : Obj, W.heap[k]? = some o ∧ o.isCells = false) ∨ (k < W1.heap.size ∧ ¬ (k < w.heap.size + 2 ∨ MB (O i s) k))
        have hnc : ∀ (k : Nat), (∃ q : Obj, W.heap[k]? = some q ∧ q.isCells = true) → ¬ ∃ o : Obj, W.heap[k]? = some o ∧ o.isCells = false := by
          rintro k ⟨q, hq1, hq2⟩ ⟨o, ho1, ho2⟩
          rw [hq1] at ho1; cases ho1; rw [hq2] at ho2; cases ho2
        have hkk : ∀ k, Kp k → k < W.heap.size := fun k hk => by
          rcases hk with ⟨o, ho, _⟩ | hk
          · exact (Array.getElem?_eq_some_iff.1 ho).1
          · exact Nat.lt_of_lt_of_le hk.1 hWW
        have J2 : GS w0 W (w.heap.size + 2) Kp K Fs (O i s) W := ⟨H.bw, Nat.le_refl _, H.bs, hkk, fun _ _ => rfl, H.kb, H.lo, H.sl, H.ow, fun o ho k hk => ⟨(H.on o ho k hk).1, fun hq => by
          rcases hq with hq | hq
          · exact hnc k (own_cells (H.ow o ho) hk) hq
          · exact hq.2 (.inr ⟨o, ho, hk⟩)⟩, H.ap⟩
        have I2 : SI (GS w0 W (w.heap.size + 2) Kp K Fs (O i s)) (GF Kp K (O i s)) [] β1 (cfQ [] (tmA i) (rwA i ++ rws i s) nxA) a' W := ⟨Is.fr, Is.df, J2, Is.row, fun p hp hk => by
          rcases hk with hk | hk | hk | hk
          · exact Is.dis p hp (.inl hk)
          · exact Is.dis p hp (.inr (.inl hk))
          · exact hnc _ (row_cells (Is.row p hp)) hk
          · rcases List.mem_append.1 hp with hp | hp
            · have := hnew p hp
              omega
            · refine hk.2 (.inl ?_)
              rw [hag p.1 (hβ i s p hp).2]
              have := (hβ i s p hp).1
              omega, Is.lt, Is.inj, Is.ids⟩
        refine wpIn_mono (hbody l i s β1 a' W Kp hi I2) ?_
        rintro e a3 W3 ⟨rfl, s', β2, c2, hag2, I3, hrow⟩
        have H3 := I3.hJ
        have hb2 : ∀ p ∈ rws (i + 1) s', β2 p.1 = β p.1 := fun p hp => by
          have := (hβ (i + 1) s' p hp).2
          rw [hag2 p.1 this, hag p.1 this]
        refine ⟨⟨H3.rs, fun k o _ ho hc => (H3.nc k (.inl ⟨o, ho, hc⟩)).trans ho⟩, MB (O (i + 1) s'), ⟨s', rfl, I.fr, I.df, ⟨H3.bw, H3.bw.size, H3.bs, fun k h => h.elim, fun k h => h.elim, H3.kb, H3.lo, H3.sl, H3.ow, fun o ho k hk => ⟨(H3.on o ho k hk).1, fun h => h⟩, H3.ap⟩, fun p hp => ?_, fun p hp hk => ?_, fun p hp => (hβ (i + 1) s' p hp).2, fun p hp q hq hne => ?_, I.ids⟩, ⟨?_, ?_, ?_, H3.rs, fun k _ hk => H3.nc k (.inr hk)⟩, fun k hk => ?_⟩
        · have := I3.row p (look hrow p hp)
          rwa [hb2 p hp] at this
        · refine I3.dis p (look hrow p hp) ?_
          rw [hb2 p hp]
          rcases hk with hk | hk | hk
          · exact .inl hk
          · exact .inr (.inl hk)
          · exact hk.elim
        · have := I3.inj p (look hrow p hp) q (look hrow q hq) hne
          rwa [hb2 p hp, hb2 q hq] at this
        · exact H3.bw.os.trans H.bw.os.symm
        · exact H3.bw.tape.trans H.bw.tape.symm
        · exact H3.bw.output.trans H.bw.output.symm
        · obtain ⟨o, ho, hk'⟩ := hk
          have h2 := ((H3.ow o ho).lt k hk').1
          have h3 := (H3.on o ho k hk').2
          by_cases h4 : k < W1.heap.size
          · by_cases h5 : MB (O i s) k
            · exact .inl h5
            · exact absurd (.inr ⟨h4, fun h => h.elim (fun h => by omega) h5⟩) h3
          · exact .inr (by omega)
      · rintro D M W hD ⟨s, rfl, Is⟩ hDD
        have H := Is.hJ
        have hnD : ∀ (k : Nat), (∃ q : Obj, W.heap[k]? = some q ∧ q.isCells = true) → ¬ k = D := fun k ⟨q, hq1, hq2⟩ e => by
          subst e
          rw [hDD] at hq1; cases hq1; cases hq2
        refine hdone D W _ s hD hDD ⟨I.fr, by rw [I.df], ⟨H.bw, Nat.le_refl _, H.bs, fun k hk => by rw [hk]; exact (Array.getElem?_eq_some_iff.1 hDD).1, fun _ _ => rfl, H.kb, H.lo, H.sl, H.ow, fun o ho k hk => ⟨(H.on o ho k hk).1, hnD k (own_cells (H.ow o ho) hk)⟩, H.ap⟩, Is.row, fun p hp hk => ?_, Is.lt, Is.inj, Is.ids⟩
        rcases hk with hk | hk | hk
        · exact Is.dis p hp (.inl hk)
        · exact Is.dis p hp (.inr (.inl hk))
        · exact hnD _ (row_cells (Is.row p hp)) hk
    · cases hq
end
end Go.Proofs.Ytabghfcjpaileaa
