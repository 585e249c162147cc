import Derived.Test.YtdlanihbpbfbcaaDoorXe
import Derived.Test.YtdlanihbpbfbcaaDoorKb
import Derived.Scope
import Derived.Test.YtdlanihbpbfbcaaDoorNa
/- Iterators whose rounds grow rows: a loop over a function by what lies in cells; regions in a round; the call of a round. -/
namespace Go.Proofs.YtdlanihbpbfbcaaDoor
open Go.RowKit Go.Sort Go.Shelf
set_option linter.unusedVariables false
/-- Blocks below a number lie as they lay, and so do all cells. -/
structure Sf (N : Nat) (A B : World) : Prop where
  bl : RowKit.Below N A B
  ce : ∀ (k : Nat) (o : Obj), A.heap[k]? = some o → o.isCells = true → B.heap[k]? = some o
theorem Sf.grow {N : Nat} {A B : World} (h : RowKit.Below A.heap.size A B) (hN : N ≤ A.heap.size) : Sf N A B := ⟨h.mono hN, fun k o hk _ => (h.block k (Array.getElem?_eq_some_iff.1 hk).1).trans hk⟩
theorem Sf.put {N l : Nat} {A : World} {o o' : Obj} (h : N ≤ l) (hl : A.heap[l]? = some o) (ho : o.isCells = false) : Sf N A (A.putObj l o') :=
  ⟨belowPut A o' h, fun k q hk hq => by
    refine (World.putObj_heap_other ?_).trans hk
    rintro rfl
    rw [hl] at hk; cases hk; rw [ho] at hq; cases hq⟩
theorem Sf.row {N : Nat} {A B : World} (h : Sf N A B) {g : Nat} {c : Array Value} (hr : HasRow A g c) : HasRow B g c := by
  obtain ⟨t, hr⟩ := hr
  exact ⟨t, h.ce g _ hr rfl⟩
/-- What an iterator that hands out N members owes its caller, who may tell it to stop. -/
def SeqG (n : Nat) (P : Program) (g : Nat) (lb : Array Value) (encs : Nat → Array Value) (N : Nat) (X : World → Prop) : Prop :=
  ∀ (l : Nat) (J : Nat → World → Prop) (Jx : World → Prop) (W : World), (∀ i A B, J i A → RowKit.Below A.heap.size A B → J i B) → (∀ A B, Jx A → RowKit.Below A.heap.size A B → Jx B) → (∀ i A, J i A → X A) →
    (∀ i W1, i < N → J i W1 → YieldAt Fence.wide (n - 1) P l (encs i) W1 fun e W' => (e = .returned (.bool true) ∧ J (i + 1) W') ∨ (e = .returned (.bool false) ∧ Jx W')) →
    J 0 W → CallsIn Fence.wide n P g (#[.func (.yield l) #[] #[]] ++ lb) W fun e W' => (∃ v, e = .returned v) ∧ (J N W' ∨ Jx W')
/-- What a round owes. -/
def postG (B : Nat) (I : Nat → World → Prop) (Ix : Code → World → Prop) (i : Nat) (W : World) : Exit → Act → World → Prop
  | .normal, _, W' => KeepsFrom B W W' ∧ I (i + 1) W'
  | .ret, _, W' => KeepsFrom B W W' ∧ Ix .ret W'
  | .exit id, _, W' => KeepsFrom B W W' ∧ Ix (.exit id) W'
  | .goto t, _, W' => KeepsFrom B W W' ∧ Ix (.goto t) W'
  | .panic _, _, _ => False
  | .outgrown, _, _ => False
/-- A range over a function. The way follows the library's own law for iterators without state of their own in cells. -/
theorem range_g {P : Program} {n : Nat} {g : Operand} {ps : Array Tmp} {assign body : Code} {Q : Exit → Act → World → Prop} {a : Act} {w : World}
    (h1 : 1 ≤ n) {gf : Nat} {lb : Array Value} (hg : a.eval g = .func (.func gf) #[] lb) (eg : ∀ args w, (callFunc gf args).run P w = .ok (.enter gf args) w)
    {encs : Nat → Array Value} {N : Nat} {X : World → Prop} (hseq : SeqG (n - 1) P gf lb encs N X)
    (hps : ∀ i, (encs i).size = ps.size)
    (I : Nat → World → Prop) (Ix : Code → World → Prop) (hX : ∀ i A, I i A → X A) (hI : ∀ i A B, I i A → Sf w.heap.size A B → I i B) (hIx : ∀ c A B, Ix c A → Sf w.heap.size A B → Ix c B) (h0 : I 0 w)
    (Ax : Nat → Act → World → Prop) (hAx : ∀ i a' W l o o', W.heap[l]? = some o → o.isCells = false → Ax i a' W → Ax i a' (W.putObj l o'))
    (hassign : ∀ (l i : Nat) (W : World) (K : Act → World → Prop), i < N → I i W → (∀ a' W', KeepsFrom w.heap.size W W' → I i W' → Ax i a' W' → K a' W') →
      assign.wpIn (Fence.wide.inRound l) (n - 1 - 1) P (Exit.then K (fun _ _ _ => False)) { tmps := (ps.zip (encs i)).foldl (fun t (p, v) => t.setIfInBounds p v) a.tmps, defers := [] } W)
    (hbody : ∀ (l i : Nat) (a' : Act) (W : World), i < N → I i W → Ax i a' W → body.wpIn (Fence.wide.inRound l) (n - 1 - 1) P (postG w.heap.size I Ix i W) a' W)
    (hdone : ∀ (D : Nat) (W : World), w.heap.size ≤ D → I N W → W.heap[D]? = some (.deferred (some [])) → Q .normal { a with defers := { target := .collected D, args := #[] } :: a.defers } W)
    (hstop : ∀ (D : Nat) (c : Code) (W : World), w.heap.size ≤ D → Ix c W → W.heap[D]? = some (.deferred (some [])) → c.wpIn Fence.wide n P Q { a with defers := { target := .collected D, args := #[] } :: a.defers } W) :
    (Code.rangeFunc g ps assign body).wpIn Fence.wide n P Q a w := by
  refine wpIn_rangeFunc ?_
  intro fn hfn
  rw [Fence.wide_round]
  obtain ⟨rec, hrec⟩ : ∃ rec : LoopState → Option Code → Loop, rec = fun st pe => { state := st, pending := pe, fn, tmps := a.tmps, params := ps, assign, body, defers := w.heap.size } := ⟨_, rfl⟩
  obtain ⟨W1, hW1⟩ : ∃ W1, (w.alloc (.deferred (some []))).alloc (.loop (rec .ready none)) = W1 := ⟨_, rfl⟩
  have hs1 : W1.heap.size = w.heap.size + 1 + 1 := by rw [← hW1]; simp
  have hL1 : W1.heap[w.heap.size + 1]? = some (.loop (rec .ready none)) := by
    rw [← hW1]; have := World.alloc_heap_new (w.alloc (.deferred (some []))) (.loop (rec .ready none)); rwa [World.size_alloc] at this
  have hK1 : W1.heap[w.heap.size]? = some (.deferred (some [])) := by
    rw [← hW1]; exact (Below.heap_alloc _ _ _ (by simp)).trans (World.alloc_heap_new w _)
  have hb1 : RowKit.Below w.heap.size w W1 := by
    rw [← hW1]; exact ((RowKit.Below.refl _ w).alloc (Nat.le_refl _) _).alloc (by simp) _
  refine ⟨w.heap.size + 1, [{ target := .collected w.heap.size, args := #[] }], W1, { target := .fn (.func gf) lb, args := #[.func (.yield (w.heap.size + 1)) #[] #[]] }, W1, gf,
    #[.func (.yield (w.heap.size + 1)) #[] #[]] ++ lb, W1, ?_, ?_, ?_, ?_, fun _ => h1, ?_⟩
  · rw [← hW1, hrec]; exact run_enterLoop_outer _ _ _ _ _
  · simp only [resolve, hg]
    simp [go_sem]
  · intro f' _; exact trivial
  · simp [invoke, go_sem, eg]
  · refine (hseq (w.heap.size + 1)
      (fun i W => I i W ∧ W.heap[w.heap.size + 1]? = some (.loop (rec .ready none)) ∧ W.heap[w.heap.size]? = some (.deferred (some [])))
      (fun W => ∃ c, Ix c W ∧ W.heap[w.heap.size + 1]? = some (.loop (rec .done (some c))) ∧ W.heap[w.heap.size]? = some (.deferred (some [])))
      W1 (fun i A B hs hb => by
        have q := (Array.getElem?_eq_some_iff.1 hs.2.1).1
        exact ⟨hI i A B hs.1 (Sf.grow hb (by omega)), (hb.block _ q).trans hs.2.1, (hb.block _ (by omega)).trans hs.2.2⟩)
      (fun A B hs hb => by
        obtain ⟨c, h1, h2, h3⟩ := hs
        have q := (Array.getElem?_eq_some_iff.1 h2).1
        exact ⟨c, hIx c A B h1 (Sf.grow hb (by omega)), (hb.block _ q).trans h2, (hb.block _ (by omega)).trans h3⟩) (fun i A h => hX i A h.1) ?_ ⟨hI _ _ _ h0 (Sf.grow hb1 (Nat.le_refl _)), hL1, hK1⟩).mono ?_
    · rintro i W hiN ⟨hi, hl, hk⟩
      have hy := run_yield (P := P) (args := encs i) hl (by rw [hrec]; exact hps i)
      rw [hrec] at hy
      refine ⟨fn, _, assign, body, hy, roundIn_of_wpIn hfn (hassign _ i W _ hiN hi ?_)⟩
      clear hy
      intro a' Wa hkfa hia hax
      replace hl := hkfa.same _ _ (by omega) hl rfl
      replace hk := hkfa.same _ _ (Nat.le_refl _) hk rfl
      have hlt : w.heap.size + 1 < Wa.heap.size := (Array.getElem?_eq_some_iff.1 hl).1
      refine ⟨_, run_beginRound hl (by rw [hrec]), ?_⟩
      have hl2 : (Wa.putObj (w.heap.size + 1) (.loop { rec .ready none with state := .busy })).heap[w.heap.size + 1]? = some (.loop { rec .ready none with state := .busy }) := World.putObj_heap_same hlt
      have hk2 : (Wa.putObj (w.heap.size + 1) (.loop { rec .ready none with state := .busy })).heap[w.heap.size]? = some (.deferred (some [])) := (World.putObj_heap_other (by omega)).trans hk
      refine wpIn_mono (hbody _ i a' _ hiN (hI _ _ _ hia (Sf.put (by omega) hl rfl)) (hAx i a' _ _ _ _ hl rfl hax)) ?_
      have fin : ∀ (jump : Option Code) (W3 : World), KeepsFrom w.heap.size (Wa.putObj (w.heap.size + 1) (.loop { rec .ready none with state := .busy })) W3 →
          W3.heap[w.heap.size + 1]? = some (.loop { rec .ready none with state := .busy }) ∧ (Instr.endRound (w.heap.size + 1) jump).run P W3 = .ok (.bool jump.isNone) (W3.putObj (w.heap.size + 1) (.loop (rec (if jump.isNone then .ready else .done) jump))) ∧
          (W3.putObj (w.heap.size + 1) (.loop (rec (if jump.isNone then .ready else .done) jump))).heap[w.heap.size + 1]? = some (.loop (rec (if jump.isNone then .ready else .done) jump)) ∧
          (W3.putObj (w.heap.size + 1) (.loop (rec (if jump.isNone then .ready else .done) jump))).heap[w.heap.size]? = some (.deferred (some [])) := fun jump W3 hk3 => by
        have hl3 := hk3.same _ _ (by omega) hl2 rfl
        have := run_endRound (P := P) jump hl3
        rw [hrec] at this hl3 ⊢
        exact ⟨hl3, this, World.putObj_heap_same (Array.getElem?_eq_some_iff.1 hl3).1, (World.putObj_heap_other (by omega)).trans (hk3.same _ _ (Nat.le_refl _) hk2 rfl)⟩
      rintro e a3 W3 hp
      cases e with
      | normal =>
        obtain ⟨hk3, hi3⟩ := hp
        obtain ⟨hq, hr, hl4, hk4⟩ := fin none W3 hk3
        exact ⟨_, _, hr, .inl ⟨rfl, ⟨hI _ _ _ hi3 (Sf.put (by omega) hq rfl), hl4, hk4⟩⟩⟩
      | ret =>
        obtain ⟨hk3, hi3⟩ := hp
        obtain ⟨hq, hr, hl4, hk4⟩ := fin (some .ret) W3 hk3
        exact ⟨_, _, hr, .inr ⟨rfl, .ret, hIx _ _ _ hi3 (Sf.put (by omega) hq rfl), hl4, hk4⟩⟩
      | exit id =>
        obtain ⟨hk3, hi3⟩ := hp
        obtain ⟨hq, hr, hl4, hk4⟩ := fin (some (.exit id)) W3 hk3
        exact ⟨_, _, hr, .inr ⟨rfl, .exit id, hIx _ _ _ hi3 (Sf.put (by omega) hq rfl), hl4, hk4⟩⟩
      | goto t =>
        obtain ⟨hk3, hi3⟩ := hp
        obtain ⟨hq, hr, hl4, hk4⟩ := fin (some (.goto t)) W3 hk3
        exact ⟨_, _, hr, .inr ⟨rfl, .goto t, hIx _ _ _ hi3 (Sf.put (by omega) hq rfl), hl4, hk4⟩⟩
      | panic ch => exact hp.elim
      | outgrown => exact hp.elim
    · rintro e W2 ⟨⟨v, rfl⟩, (⟨hi, hl, hk⟩ | ⟨c, hi, hl, hk⟩)⟩
      · exact ⟨none, _, by have := run_endLoop (P := P) hl (by rw [hrec]; simp); rw [hrec] at this; exact this, hdone _ _ (Nat.le_refl _) (hI _ _ _ hi (Sf.put (by omega) hl rfl)) ((World.putObj_heap_other (by omega)).trans hk)⟩
      · exact ⟨some c, _, by have := run_endLoop (P := P) hl (by rw [hrec]; simp); rw [hrec] at this; exact this, hstop _ c _ (Nat.le_refl _) (hIx _ _ _ hi (Sf.put (by omega) hl rfl)) ((World.putObj_heap_other (by omega)).trans hk)⟩

section
variable {P : Program} {ops : Array Oper} {Q : Exit → Act → World → Prop} {l n : Nat}
theorem noDef_mem (h : noDefB ops = true) {o : Oper} (ho : o ∈ ops.toList) : ∀ c, o.op ≠ .defer c := by
  obtain ⟨i, hi⟩ := List.mem_iff_getElem?.1 ho
  exact noDef_at h (i := i) (by simpa using hi)
theorem wpL_round (hn : noDefB ops = true) : ∀ (os : List Oper) (a : Act) (w : World), (∀ o ∈ os, o ∈ ops.toList) → wpL P ops Q os a w → wpListIn (Fence.wide.inRound l) n P ops Q os a w
  | [], a, w, _, h => h
  | o :: os, a, w, hs, h => by
    unfold wpL at h
    unfold wpListIn
    split at h
    · next hw =>
      rw [if_pos hw]
      exact Oper.wpIn_mono (fun a w h => wpL_round hn os a w (fun q hq => hs q (List.mem_cons_of_mem _ hq)) h) (wp_round (noDef_mem hn (hs o List.mem_cons_self)) h)
    · next hw =>
      rw [if_neg hw]
      exact ⟨fun _ _ => trivial, wpL_round hn os _ w (fun q hq => hs q (List.mem_cons_of_mem _ hq)) h⟩
/-- A region in its order, in a round. -/
abbrev cfO (ops : Array Oper) (rest : List Oper) (tm : Vs) (rows : Rows) (nx : Nat) : Cf := { ops := ops, rest := rest, ks := [], tm := tm, rows := rows, nx := nx, dn := none }
theorem regR {J : World → Prop} {F : Nat → Prop} {ds : List Deferred} {β : Nat → Nat} {c : Cf} {id : Nat} {a : Act} {w : World} (I : SI J F ds β c a w) (h : SI J F ds β (cfO ops ops.toList c.tm c.rows c.nx) a w → At P Q (cfO ops ops.toList c.tm c.rows c.nx) a w) (hn : noDefB ops = true := by kernel_rfl) : (Code.region id ops false).wpIn (Fence.wide.inRound l) n P Q a w :=
  wpIn_region_list (wpL_round hn _ _ _ (fun _ h => h) (h (I.cf rfl rfl rfl)).out)
theorem atN {c : Cf} {a : Act} {w : World} (h : Q .normal a w) (hd : c.dn = some .normal := by kernel_rfl) : At P Q c a w := ⟨by unfold AtD; rw [hd]; exact h⟩
/-- A region that draws its order, in a round. -/
theorem drwR {J : World → Prop} {F : Nat → Prop} {ds : List Deferred} {β : Nat → Nat} {T : World → Prop} {id : Nat} {tm : Vs} {rows : Rows} {nx : Nat} {a : Act} {w : World} (m : Nat) (fs : List (Fa P T)) (R : Rsrc J F) (hT : ∀ w, J w → T w) (hQ : PanOk Q) (I : SI J F ds β (cfC (.region id ops true) tm rows nx) a w)
    (k : ∀ a' w', SI J F ds β (dw P m fs (cfC (.region id ops true) tm rows nx)) a' w' → At P Q (dw P m fs (cfC (.region id ops true) tm rows nx)) a' w') (hn : noDefB ops = true := by kernel_rfl) (hm : P.follows .mixedOrders = true := by kernel_rfl)
    (hs : (dwX P m fs (cfC (.region id ops true) tm rows nx)).isSome = true := by kernel_rfl) (he : (dwX P m fs (cfC (.region id ops true) tm rows nx)).map (fun r => r.2.map (·.1)) = (dwX P m fs (cfC (.region id ops true) tm rows nx)).map (fun r => r.2.map (·.2)) := by kernel_rfl) :
    (Code.region id ops true).wpIn (Fence.wide.inRound l) n P Q a w := by
  refine RegV.round (l := l) (n := n) (d := true) hm ?_ hn
  cases hx : dwX P m fs (cfC (.region id ops true) tm rows nx) with
  | none => rw [hx] at hs; cases hs
  | some r =>
    unfold dw at k
    rw [hx] at he k
    simp only [Option.map_some, Option.some.injEq, Option.getD_some] at he k
    unfold dwX at hx
    split at hx
    · next ops' ks hc =>
      have hc2 : ops' = ops ∧ ks = [] := by
        simp only [drQ, Option.some.injEq, Prod.mk.injEq] at hc
        exact ⟨hc.1.symm, hc.2.symm⟩
      obtain ⟨rfl, rfl⟩ := hc2
      split at hx
      · next vals us e hg =>
        split at hx
        · next hb =>
          cases hx
          simp only [Bool.and_eq_true, decide_eq_true_eq] at hb
          exact drawR (ty_ok hm) R hT hQ m hg (eqs_of he) hb.1.1.1.1 hb.1.1.1.2 hb.1.1.2 hb.1.2 hb.2 I fun a' w' I' => (k a' w' I').out
        · cases hx
      · cases hx
    · cases hx
theorem wp_wide {o : Oper} {a : Act} {w : World} {K : Act → World → Prop} (h : o.wp P a w K Q) : o.wpIn Fence.wide n P a w K Q := by
  unfold Oper.wpIn
  refine ⟨fun _ _ => trivial, ?_⟩
  rw [Fence.wide_round, Oper.semAt_none]
  unfold Oper.wp at h
  generalize (execOp a.eval o).run P w = r at h
  cases r with
  | ok x w' =>
    cases x with
    | enter f args => exact ⟨fun h => by simp [Fence.wide] at h, callsIn_wide.2 h⟩
    | row r args => exact ⟨fun h => by simp [Fence.wide] at h, by
        intro c cs _
        obtain ⟨v, w', r, s⟩ := (show Go.Rows _ _ _ _ _ from h) c cs
        exact ⟨v, w', r, stepsIn_wide.2 s⟩⟩
    | value v => exact h
    | skip => exact h
    | defer d => exact h
    | _ => exact h.elim
  | halt x w' => cases x <;> first | exact h | exact h.elim
theorem wp_monoQ {Q' : Exit → Act → World → Prop} {o : Oper} {a : Act} {w : World} {K : Act → World → Prop} (hp : ∀ ch a w, Q' (.panic ch) a w → Q (.panic ch) a w) (ho : ∀ a w, Q' .outgrown a w → Q .outgrown a w) (h : o.wp P a w K Q') : o.wp P a w K Q := by
  unfold Oper.wp at *
  generalize (execOp a.eval o).run P w = r at *
  cases r with
  | ok x w' =>
    cases x with
    | enter f args =>
      refine Calls.mono h fun e w'' he => ?_
      cases e with
      | returned v => exact he
      | panicked ch => exact hp _ _ _ he
      | outgrown => obtain ⟨a, w, h⟩ := he; exact ⟨a, w, ho _ _ h⟩
    | row r args => exact h
    | value v => exact h
    | skip => exact h
    | defer d => exact h
    | _ => exact h.elim
  | halt x w' => cases x <;> first | exact hp _ _ _ h | exact h.elim
/-- The first operations of a region in its order; the others behind them. -/
def thenL (n : Nat) (P : Program) (ops : Array Oper) (Q : Exit → Act → World → Prop) (post : List Oper) : Exit → Act → World → Prop
  | .normal, a, w => wpListIn Fence.wide n P ops Q post a w
  | e, a, w => Q e a w
theorem wpL_wide (post : List Oper) : ∀ (pre : List Oper) (a : Act) (w : World), wpL P ops (thenL n P ops Q post) pre a w → wpListIn Fence.wide n P ops Q (pre ++ post) a w
  | [], a, w, h => h
  | o :: os, a, w, h => by
    unfold wpL at h
    rw [List.cons_append]
    unfold wpListIn
    split at h
    · next hw =>
      rw [if_pos hw]
      exact wp_wide (wp_monoQ (fun _ _ _ h => h) (fun _ _ h => h) (Oper.wp_mono (fun a w h => wpL_wide post os a w h) h))
    · next hw =>
      rw [if_neg hw]
      exact ⟨fun _ _ => trivial, wpL_wide post os _ w h⟩
theorem regS {id : Nat} (k : Nat) {tm : Vs} {rows : Rows} {nx : Nat} {a : Act} {w : World} (h : At P (thenL n P ops Q (ops.toList.drop k)) (cfO ops (ops.toList.take k) tm rows nx) a w) : (Code.region id ops false).wp P Q a w := by
  refine (wpIn_wide (n := n)).1 (wpIn_region_list ?_)
  have := wpL_wide (ops.toList.drop k) (ops.toList.take k) a w h.out
  rwa [List.take_append_drop] at this
/-- The last operations of a region in its order. -/
theorem lastS {post : List Oper} {tm : Vs} {rows : Rows} {nx : Nat} {a : Act} {w : World} (h : At P Q (cfO ops post tm rows nx) a w) : wpListIn Fence.wide n P ops Q post a w := by
  have h2 := wpL_wide (n := n) (Q := Q) (P := P) (ops := ops) [] post a w ?_
  · rwa [List.append_nil] at h2
  · have h3 : wpL P ops Q post a w := h.out
    have e : thenL n P ops Q [] = Q := by
      funext e a w
      cases e <;> rfl
    rw [e]
    exact h3
/-- The call of a round. -/
theorem yieldO {o : Oper} {post : List Oper} {a : Act} {w : World} {x : Operand} {xs : Array Operand} {ts : Array TypeId} {args : Array Value} {R : Ending → World → Prop} {r : Nat}
    (ho : o.op = .call { callee := .value x, args := xs, argTypes := ts }) (hx : a.eval x = .func (.yield r) #[] #[]) (hxs : xs.map a.eval = args) (hg : Region.wanted o (yielded ops a.tmps) = true) (hY : YieldAt Fence.wide (n - 1) P r args w R)
    (k : ∀ e w', R e w' → ∃ v, e = .returned v ∧ wpListIn Fence.wide n P ops Q post (a.put o.dst v) w') : wpListIn Fence.wide n P ops Q (o :: post) a w := by
  unfold wpListIn
  rw [if_pos hg]
  obtain ⟨fn, tmps, assign, body, hy, hR⟩ := hY
  unfold Oper.wpIn
  refine ⟨fun _ _ => trivial, ?_⟩
  rw [Fence.wide_round, Oper.semAt_none]
  have he : (execOp a.eval o).run P w = .ok (.round r fn tmps assign body) w := by
    clear hg k
    revert hx hxs
    generalize a.eval = ρ
    intro hx hxs
    unfold execOp
    simp [ho, hx, hxs, go_sem, resolve, hy]
  rw [he, Oper.uponIn_round]
  refine ⟨fun h => by simp [Fence.wide] at h, hR.mono fun e w' h => ?_⟩
  obtain ⟨v, rfl, h2⟩ := k e w' h
  exact h2
end
end Go.Proofs.YtdlanihbpbfbcaaDoor
/- Calls of a round. -/
namespace Go.Proofs.YtdlanihbpbfbcaaDoor
open Go.RowKit Go.Sort Go.Shelf
set_option linter.unusedVariables false
set_option maxRecDepth 100000
theorem SI.rebase {J : World → Prop} {F : Nat → Prop} {ds : List Deferred} {β : Nat → Nat} {c c' : Cf} {a : Act} {w : World} (I : SI J F ds β c a w) (h1 : c'.tm = c.tm) (h2 : c'.rows = []) (h3 : c'.nx = c.nx) {w' : World} : SI (RowKit.Below w'.heap.size w') (· < w'.heap.size) ds β c' a w' := by
  refine ⟨by rw [h1]; exact I.fr, I.df, RowKit.Below.refl _ _, ?_, ?_, ?_, ?_, by rw [h1, h3]; exact I.ids⟩ <;> rw [h2] <;> intro p hp <;> cases hp
section
variable {P : Program} {J : World → Prop} {F : Nat → Prop} {ds : List Deferred} {β : Nat → Nat} {c : Cf} {a : Act} {w : World} {Q : Exit → Act → World → Prop} {n : Nat}
def rgQ (c : Cf) : Option (Array Oper × List Ki) := match c.dn, c.rest, c.ks with
  | none, [], Sum.inl (.region _ ops false) :: ks => some (ops, ks)
  | _, _, _ => none
abbrev rgO (c : Cf) : Array Oper := ((rgQ c).map (·.1)).getD #[]
abbrev rgK (c : Cf) : List Ki := ((rgQ c).map (·.2)).getD []
/-- Into a region that calls a value: its first operations. -/
theorem regY (n k : Nat) (h : At P (thenL n P (rgO c) (QK P Q (rgK c)) ((rgO c).toList.drop k)) (cfO (rgO c) ((rgO c).toList.take k) c.tm c.rows c.nx) a w) (hc : (rgQ c).isSome = true := by kernel_rfl) : At P Q c a w := by
  cases hq : rgQ c with
  | none => rw [hq] at hc; cases hc
  | some r =>
    unfold rgO rgK at h
    simp only [hq, Option.map_some, Option.getD_some] at h
    unfold rgQ at hq
    split at hq
    · next id ops ks hd hr hk =>
      cases hq
      refine ⟨?_⟩
      unfold AtD
      rw [hd, hr, hk]
      exact regS (n := n) k h
    · cases hq
abbrev cfQ (ks : List Ki) (tm : Vs) (rows : Rows) (nx : Nat) : Cf := { ops := #[], rest := [], ks := ks, tm := tm, rows := rows, nx := nx, dn := none }
theorem atK {ks : List Ki} (I : SI J F ds β c a w) (h : SI J F ds β (cfQ ks c.tm c.rows c.nx) a w → At P Q (cfQ ks c.tm c.rows c.nx) a w) : QK P Q ks .normal a w := (h (I.cf rfl rfl rfl)).out
/-- The call of a value that is next. -/
def yQ (ops : Array Oper) (tm : Vs) : List Oper → Option (Nat × List Value × Option Tmp)
  | o :: _ => if wantQ ops tm o = some true then match o.op with
    | .call { callee := .value x, args := xs, argTypes := _ } => match evQ tm x with
      | some (Sum.inl (.func (.yield r) f g)) => if f.size = 0 ∧ g.size = 0 then (xs.toList.mapM fun x => plain (evQ tm x)).map fun vs => (r, vs, o.dst) else none
      | _ => none
    | _ => none else none
  | _ => none
theorem yieldC {ops : Array Oper} (lst : List Oper) (dst : Tmp) {r : Nat} {args : List Value} {R : Ending → World → Prop} (I : SI J F ds β c a w) (hY : YieldAt Fence.wide (n - 1) P r args.toArray w R)
    (k : ∀ e w', R e w' → ∃ v, e = .returned v ∧ (SI (RowKit.Below w'.heap.size w') (· < w'.heap.size) ds β (cfO ops lst.tail (c.tm.set dst (some (Sum.inl v))) [] c.nx) (a.put (some dst) v) w' → At P Q (cfO ops lst.tail (c.tm.set dst (some (Sum.inl v))) [] c.nx) (a.put (some dst) v) w'))
    (hc : yQ ops c.tm lst = some (r, args, some dst) := by kernel_rfl) (ho : c.ops = ops := by kernel_rfl) : wpListIn Fence.wide n P ops Q lst a w := by
  cases lst with
  | nil => cases hc
  | cons o post =>
    simp only [yQ] at hc
    split at hc
    · next hw =>
      subst ho
      split at hc
      · next x xs ts hop =>
        split at hc
        · next r' f g hx =>
          split at hc
          · next hfg =>
            obtain rfl := Array.eq_empty_of_size_eq_zero hfg.1
            obtain rfl := Array.eq_empty_of_size_eq_zero hfg.2
            simp only [Option.map_eq_some_iff, Prod.mk.injEq] at hc
            obtain ⟨vs, hm, rfl, rfl, hd⟩ := hc
            refine yieldO hop (evQ_ok I.fr hx) ?_ (wantQ_ok I hw) hY fun e w' he => ?_
            · rw [← mapQ_ok I.fr hm]; apply Array.ext'; simp
            · obtain ⟨v, rfl, h2⟩ := k e w' he
              refine ⟨v, rfl, ?_⟩
              rw [hd]
              have hfr := putQ_fr I.fr (some dst) (some (Sum.inl v))
              refine lastS (h2 ⟨hfr, I.df, RowKit.Below.refl _ _, fun p hp => (by cases hp), fun p hp => (by cases hp), fun p hp => (by cases hp), fun p hp => (by cases hp), ?_⟩)
              exact idsB_put I.ids (some dst) (fun i o h => by cases h)
          · cases hc
        · cases hc
      · cases hc
    · cases hc
end
end Go.Proofs.YtdlanihbpbfbcaaDoor
/- A loop over a function in a walk; functions that hold one. -/
namespace Go.Proofs.YtdlanihbpbfbcaaDoor
open Go.RowKit Go.Sort Go.Shelf
set_option linter.unusedVariables false
set_option maxRecDepth 100000
section
variable {P : Program} {J : World → Prop} {F : Nat → Prop} {ds : List Deferred} {β : Nat → Nat} {c : Cf} {a : Act} {w : World} {Q : Exit → Act → World → Prop}
/-- A function that holds a loop over a function. -/
theorem inM {f : Nat} {fn : Func} {args : Array Value} {Rt : Ending → World → Prop} (n : Nat) (hf : P.funcs[f]? = some fn) (hJ : J w)
    (k : ∀ a, SI J F [] (fun _ => 0) (cfF fn args) a w → At P (bodyPostM Fence.wide n P fn Rt) (cfF fn args) a w) (hb : fn.body.isSome = true := by kernel_rfl) : Calls P f args w Rt := by
  have hb' : fn.body = some (fn.body.getD .skip) := by
    cases h : fn.body with
    | none => rw [h] at hb; cases hb
    | some x => rfl
  refine (callsIn_wide (n := n)).1 (callsIn_of_wp_marks hf hb' trivial (wpIn_wide.2 (wp_cfC (k _ ⟨?_, rfl, hJ, ?_, ?_, ?_, ?_, ?_⟩))) rfl)
  · apply Array.ext'
    simp [begX, upO]
    exact (List.map_id _).symm
  · intro p hp; cases hp
  · intro p hp; cases hp
  · intro p hp; cases hp
  · intro p hp; cases hp
  · simp [begX, idsB]
/-- Its end. -/
theorem outM {fn : Func} {v : Value} {Rt : Ending → World → Prop} {n D : Nat} (I : SI J F [{ target := .collected D, args := #[] }] β c a w) (hD : w.heap[D]? = some (.deferred (some []))) (h : Rt (.returned v) (w.putObj D (.deferred none))) (hr : resX P fn (c.tm, [], c.nx) = some v := by kernel_rfl) (hd : c.dn = some .ret := by kernel_rfl) : At P (bodyPostM Fence.wide n P fn Rt) c a w := by
  refine ⟨?_⟩
  unfold AtD
  rw [hd]
  have I2 := I.rebase (c' := { c with rows := [] }) rfl rfl rfl (w' := w.putObj D (.deferred none))
  have hres := resX_ok (st := (c.tm, [], c.nx)) I2.inv hr
  show LeavesInM Fence.wide n P fn a.tmps Rt a.defers .returning w
  rw [I.df]
  refine ⟨by simp, .inl ⟨_, _, rfl, run_takeDeferred hD, ?_⟩⟩
  exact ⟨_, hres, h⟩
/-- The loop that is next. -/
def rfQ (c : Cf) : Option (Nat × Operand × Array Tmp × Code × Code × List Ki) := match c.dn, c.rest, c.ks with
  | none, [], Sum.inl (.block id (.rangeFunc g ps x y)) :: ks => some (id, g, ps, x, y, ks)
  | _, _, _ => none
def rfI (c : Cf) : Nat := ((rfQ c).map (·.1)).getD 0
def rfP (c : Cf) : Array Tmp := ((rfQ c).map (·.2.2.1)).getD #[]
def rfA (c : Cf) : Code := ((rfQ c).map (·.2.2.2.1)).getD .skip
def rfB (c : Cf) : Code := ((rfQ c).map (·.2.2.2.2.1)).getD .skip
def rfK (c : Cf) : List Ki := ((rfQ c).map (·.2.2.2.2.2)).getD []
def parV (ps : List Tmp) (vs : List Value) (tm : Vs) : Vs := (ps.zip vs).foldl (fun t p => t.set p.1 (some (Sum.inl p.2))) tm
theorem parV_fr : ∀ (l : List (Tmp × Value)) (t : Array Value) (tm : Vs), t = (tm.map (upO β)).toArray → l.foldl (fun t p => t.setIfInBounds p.1 p.2) t = ((l.foldl (fun t p => t.set p.1 (some (Sum.inl p.2))) tm).map (upO β)).toArray
  | [], t, tm, h => h
  | (x, v) :: l, t, tm, h => by
    simp only [List.foldl_cons]
    refine parV_fr l _ _ ?_
    rw [h, List.setIfInBounds_toArray, List.map_set]
    rfl
theorem parV_ids {nx : Nat} : ∀ (l : List (Tmp × Value)) (tm : Vs), idsB tm nx = true → idsB (l.foldl (fun t p => t.set p.1 (some (Sum.inl p.2))) tm) nx = true
  | [], tm, h => h
  | (x, v) :: l, tm, h => parV_ids l _ (idsB_put h (some x) (fun i o h => by cases h))
theorem rangeQ (n : Nat) (h1 : 1 ≤ n) {gf : Nat} {fn : Func} {lb : Array Value} {encs : Nat → Array Value} {N : Nat} {X : World → Prop} (hf : P.funcs[gf]? = some fn) (hseq : SeqG (n - 1) P gf lb encs N X) (I : SI J F ds β c a w)
    (I' : Nat → World → Prop) (Ix : Code → World → Prop) (hX : ∀ i A, I' i A → X A) (hN : ∀ i A, I' i A → w.heap.size ≤ A.heap.size) (hI : ∀ i A B, I' i A → Sf w.heap.size A B → I' i B) (hIx : ∀ cc A B, Ix cc A → Sf w.heap.size A B → Ix cc B) (h0 : I' 0 w)
    (hps : ∀ i, (encs i).size = (rfP c).size) (tmA : Nat → Vs)
    (hassign : ∀ (l i : Nat) (W : World) (K : Act → World → Prop) (a' : Act), SI (RowKit.Below W.heap.size W) (· < W.heap.size) [] β (cfQ [] (parV (rfP c).toList (encs i).toList c.tm) [] c.nx) a' W → (∀ a'' W', RowKit.Below W.heap.size W W' → a''.tmps = ((tmA i).map (upO β)).toArray → a''.defers = [] → K a'' W') →
      (rfA c).wpIn (Fence.wide.inRound l) (n - 1 - 1) P (Exit.then K (fun _ _ _ => False)) a' W)
    (hbody : ∀ (l i : Nat) (a' : Act) (W : World), i < N → I' i W → a'.tmps = ((tmA i).map (upO β)).toArray → a'.defers = [] → (rfB c).wpIn (Fence.wide.inRound l) (n - 1 - 1) P (postG w.heap.size I' Ix i W) a' W)
    (hdone : ∀ (D : Nat) (W : World) (a' : Act), w.heap.size ≤ D → I' N W → W.heap[D]? = some (.deferred (some [])) → a'.tmps = a.tmps → a'.defers = { target := .collected D, args := #[] } :: ds → QK P Q (rfK c) .normal a' W)
    (hstop : ∀ (D : Nat) (cc : Code) (W : World) (a' : Act), w.heap.size ≤ D → Ix cc W → W.heap[D]? = some (.deferred (some [])) → a'.tmps = a.tmps → a'.defers = { target := .collected D, args := #[] } :: ds → cc.wp P (Exit.inBlock (rfI c) (QK P Q (rfK c))) a' W)
    (hg : (rfQ c).bind (fun r => evQ c.tm r.2.1) = some (Sum.inl (.func (.func gf) #[] lb)) := by kernel_rfl) (hfb : fn.body.isNone = false := by kernel_rfl) (hfn : (fn.name == "runtime.NumGoroutine") = false := by kernel_rfl) : At P Q c a w := by
  cases hq : rfQ c with
  | none => rw [hq] at hg; cases hg
  | some r =>
    obtain ⟨id, g, ps, x, y, ks⟩ := r
    unfold rfI rfK at hstop
    unfold rfK at hdone
    unfold rfP at hps
    unfold rfP rfA at hassign
    unfold rfB at hbody
    simp only [hq, Option.map_some, Option.getD_some, Option.bind_some] at hg hps hassign hbody hdone hstop
    unfold rfQ at hq
    split at hq
    · next id' g' ps' x' y' ks' hd hr hk =>
      cases hq
      refine ⟨?_⟩
      unfold AtD
      rw [hd, hr, hk]
      show (Code.block id (.rangeFunc g ps x y)).wp P (QK P Q ks) a w
      refine (wpIn_wide (n := n)).1 (wpIn_block ?_)
      have hge : a.eval g = .func (.func gf) #[] lb := evQ_ok I.fr hg
      obtain ⟨bd, hbd⟩ : ∃ bd, fn.body = some bd := by
        cases hfx : fn.body with
        | none => rw [hfx] at hfb; cases hfb
        | some x => exact ⟨x, rfl⟩
      refine range_g h1 hge (enters_of hf hfn hbd) hseq hps I' Ix hX hI hIx h0 (fun i a' W => a'.tmps = ((tmA i).map (upO β)).toArray ∧ a'.defers = []) (fun i a' W l o o' _ _ h => h) ?_ ?_ ?_ ?_
      · intro l i W K hi hIi hK
        refine hassign l i W K _ ⟨?_, rfl, RowKit.Below.refl _ _, fun p hp => (by cases hp), fun p hp => (by cases hp), fun p hp => (by cases hp), fun p hp => (by cases hp), ?_⟩ fun a'' W' hb ht hdf => ?_
        · have := parV_fr (β := β) (ps.toList.zip (encs i).toList) a.tmps c.tm I.fr
          rw [← Array.foldl_toList]
          rw [Array.toList_zip]
          exact this
        · exact parV_ids _ _ I.ids
        · have hs := hN _ _ hIi
          exact hK a'' W' ⟨hb.size, fun k o _ hk _ => (hb.block k (Array.getElem?_eq_some_iff.1 hk).1).trans hk⟩ (hI _ _ _ hIi (Sf.grow hb hs)) ⟨ht, hdf⟩
      · rintro l i a' W hi hIi ⟨ht, hdf⟩
        exact hbody l i a' W hi hIi ht hdf
      · intro D W hD hIN hDD
        exact hdone D W _ hD hIN hDD rfl (by rw [I.df])
      · intro D cc W hD hIN hDD
        exact wpIn_wide.2 (hstop D cc W _ hD hIN hDD rfl (by rw [I.df]))
    · cases hq
def SI.cfg (I : SI J F ds β c a w) : Cf := c
theorem atE (h : Q .normal a w) (hr : (c.rest, c.ks, c.dn) = ([], [], none) := by kernel_rfl) : At P Q c a w := by
  simp only [Prod.mk.injEq] at hr
  refine ⟨?_⟩
  unfold AtD
  rw [hr.2.2, hr.1, hr.2.1]
  exact h
theorem SI.frE {β' : Nat → Nat} {nx : Nat} (I : SI J F ds β' c a w) (h : ∀ i, i < nx → β' i = β i) (tm0 : Vs) (he : c.tm = tm0 := by kernel_rfl) (hn : c.nx = nx := by kernel_rfl) : a.tmps = (tm0.map (upO β)).toArray := by
  rw [I.fr, he]
  refine congrArg List.toArray (List.map_congr_left fun s hs => ?_)
  obtain ⟨t, ht⟩ := List.mem_iff_getElem?.1 hs
  have hi := I.ids
  rw [he, hn] at hi
  exact upO_agree hi h ht
theorem agN {n m : Nat} {β β' β'' : Nat → Nat} (h : Agree n β β') (k : Agree m β' β'') (hn : n = 1 := by kernel_rfl) (hm : m = 1 := by kernel_rfl) : ∀ i, i < 1 → β'' i = β i := by
  subst hn hm
  exact fun i hi => (k i hi).trans (h i hi)
/-- A region of a function by its number. -/
def opsOf (k : Nat) : Code → Option (Array Oper)
  | .region id ops _ => if id = k then some ops else none
  | .seq x y => (opsOf k x).or (opsOf k y)
  | .block _ x => opsOf k x
  | .cond _ x y => (opsOf k x).or (opsOf k y)
  | .loop x => opsOf k x
  | .scope x => opsOf k x
  | .rangeFunc _ _ x y => (opsOf k x).or (opsOf k y)
  | _ => none
def regO (fn : Func) (k : Nat) : Array Oper := (fn.body.bind (opsOf k)).getD #[]
theorem KeepsFrom.of_grow {B : Nat} {W W' : World} {G : Nat → Prop} (h : Grow G W W') (hG : ∀ (k : Nat) (o : Obj), W.heap[k]? = some o → o.isCells = false → G k) : KeepsFrom B W W' := ⟨h.size, fun k o _ hk ho => (h.block k (Array.getElem?_eq_some_iff.1 hk).1 (hG k o hk ho)).trans hk⟩
end
end Go.Proofs.YtdlanihbpbfbcaaDoor
