/- Ground for readers that throw: panics, rows that grow by elements, a reader's own row. -/
import Derived.Test.YtjjiendgmnlokaaDoorKdWf
namespace Go.Proofs.YtjjiendgmnlokaaDoor
open Go.RowKit Go.Sort
set_option linter.unusedVariables false
set_option maxRecDepth 100000
section
variable {P : Program} {J : World → Prop} {F : Nat → Prop} {ds : List Deferred} {β : Nat → Nat} {c : Cf} {a : Act} {w : World} {Q : Exit → Act → World → Prop}
/-- The panic that is next. -/
def pnQ (c : Cf) : Option SV := match opAtQ c with
  | some o => match o.op with
    | .panic x => evQ c.tm x
    | _ => none
  | none => none
theorem panQ {t : TypeId} {v : Value} (I : SI J F ds β c a w) (k : Q (.panic [{ v := .iface t v, recovered := false }]) a w) (hc : pnQ c = some (Sum.inl (.iface t v)) := by kernel_rfl) : At P Q c a w := by
  unfold pnQ at hc
  split at hc
  · next o ho =>
    split at hc
    · next x hop =>
      obtain ⟨hd, ⟨rest, hr⟩, hw⟩ := opAtQ_some ho
      refine at_cons hd hr (wantQ_ok I hw) ?_
      have hrun : (execOp a.eval o).run P w = .halt (.panic (.iface t v)) w := by
        unfold execOp
        simp only [hop, evQ_ok I.fr hc, up, Instr.panic]
        rfl
      unfold Oper.wp
      rw [hrun]
      exact panQ_ok k
    · cases hc
  · cases hc
/-- The slice that is built next. -/
def bsQ (c : Cf) : Option (TypeId × Nat × List (Nat × SV)) := match opAtQ c with
  | some o => match o.op with
    | .buildSlice t n ps => (ps.toList.mapM fun p => (evQ c.tm p.2).map fun s => (p.1, s)).map fun ss => (t, n, ss)
    | _ => none
  | none => none
theorem mapP_ok {tm : Vs} (ha : a.tmps = (tm.map (upO β)).toArray) : ∀ {xs : List (Nat × Operand)} {ss : List (Nat × SV)}, (xs.mapM fun p => (evQ tm p.2).map fun s => (p.1, s)) = some ss → xs.map (fun p => (p.1, a.eval p.2)) = ss.map fun p => (p.1, up β p.2)
  | [], vs, h => by simp at h; subst h; rfl
  | x :: xs, vs, h => by
    rw [List.mapM_cons] at h
    cases h1 : evQ tm x.2 with
    | none => rw [h1] at h; simp at h
    | some v =>
      cases h2 : (xs.mapM fun p => (evQ tm p.2).map fun s => (p.1, s)) with
      | none => rw [h1, h2] at h; simp at h
      | some us =>
        rw [h1, h2] at h
        simp at h
        subst h
        rw [List.map_cons, mapP_ok ha h2, evQ_ok ha h1]
        rfl
theorem bslQ {t : TypeId} {n : Nat} {ss : List (Nat × SV)} {v : Value} {w' : World} (I : SI J F ds β c a w) (hr : (Instr.buildSlice t n (ss.map fun p => (p.1, up β p.2)).toArray).run P w = .ok v w') (k : At P Q (nxtQ c v) (a.put (dstQ c) v) w') (hc : bsQ c = some (t, n, ss) := by kernel_rfl) : At P Q c a w := by
  unfold bsQ at hc
  split at hc
  · next o ho =>
    split at hc
    · next t' n' ps hop =>
      simp only [Option.map_eq_some_iff, Prod.mk.injEq] at hc
      obtain ⟨ss', hm, rfl, rfl, rfl⟩ := hc
      refine vstep ho I (v := v) (w' := w') ?_ k
      have h1 := mapP_ok I.fr hm
      have h2 : (ps.map fun (i, x) => (i, a.eval x)) = (ss'.map fun p => (p.1, up β p.2)).toArray := by
        rw [← h1]; apply Array.ext'; simp
      unfold execOp
      simp only [hop, h2, Sem.run_bind, hr, Result.andThen_ok, Sem.run_pure]
    · cases hc
  · cases hc
end
theorem SI.exit {J : World → Prop} {F : Nat → Prop} {ds : List Deferred} {β : Nat → Nat} {c : Cf} {a : Act} {w : World} (I : SI J F ds β c a w) (r : Er) : SI J F ds β (cfE r c.tm c.rows c.nx) a w := I.cf rfl rfl rfl
def mI {T : World → Prop} (t : Nat) {d : TypeDesc} (hu : Tryd.prog.underlying t = some d) (hd : (match d with | .interface _ => false | _ => true) = true) {x : Value} : Fa Tryd.prog T := Sum.inr (Sum.inr
  { ok := fun | .makeInterface t' _ => t' == t | _ => false
    xs := #[x]
    v := .iface t x
    fr := true
    h := by
      intro a w oo _ hok hx
      cases hop : oo.op with
      | makeInterface t' y =>
        rw [hop] at hok hx
        simp only [beq_iff_eq] at hok
        subst hok
        simp only [opnds, List.map_cons, List.map_nil] at hx
        have hx1 : a.eval y = x := by simpa using hx
        unfold execOp
        simp only [hop, hx1, Instr.makeInterface, Sem.run_bind, run_underlying hu, Result.andThen_ok]
        cases d <;> first | (simp at hd; done) | rfl
      | _ => rw [hop] at hok; simp at hok })
/-- What is thrown. -/
abbrev PErr : List PanicEntry := [{ v := .iface 67 (Z 2), recovered := false }]
theorem ask_t (w : World) : Calls Tryd.prog 24 #[.bool true] w fun e w' => e = .returned T0 ∧ Below w.heap.size w w' := by
  refine inQ (J := Below w.heap.size w) (F := (· < w.heap.size)) Tryd.func24 (Below.refl _ _) fun a I => ?_
  refine goQ [uO .not (p := .bool true) (v := .bool false) (by intros; rfl)] (nonR w) I fun β a w1 I hb => ?_
  exact out0 I ⟨rfl, I.hJ⟩
theorem ask_f (w : World) : Calls Tryd.prog 24 #[.bool false] w fun e w' => e = .panicked PErr ∧ Below w.heap.size w w' := by
  refine inQ (J := Below w.heap.size w) (F := (· < w.heap.size)) Tryd.func24 (Below.refl _ _) fun a I => ?_
  refine goQ [uO .not (p := .bool false) (v := .bool true) (by intros; rfl), mI 67 Tryd.underlying67 rfl (x := Z 2)] (nonR w) I fun β a w1 I hb => ?_
  exact panQ I ⟨I.df, rfl, I.hJ⟩
/-- Within a reader's method: all that was there but its row lies as it lay; a row that grows. -/
structure RO (wE : World) (g e sz : Nat) (v : Value) (n : Nat) (xs : List Value) (w : World) : Prop where
  gr : Grow (fun k => k ≠ g) wE w
  own : w.ownsRow wE.heap.size e sz v n xs
def ROF (wE : World) (g : Nat) (v : Value) (k : Nat) : Prop := (k < wE.heap.size ∧ k ≠ g) ∨ v.ownBlock = some k
theorem RO.rs (wE : World) (g e sz : Nat) (v : Value) (n : Nat) (xs : List Value) : Rsrc (RO wE g e sz v n xs) (ROF wE g v) := by
  refine ⟨fun w w' h gr => ⟨⟨gr.os.trans h.gr.os, gr.tape.trans h.gr.tape, gr.output.trans h.gr.output, Nat.le_trans h.gr.size gr.size, fun k hk hn => (gr.block k (Nat.lt_of_lt_of_le hk h.gr.size) (.inl ⟨hk, hn⟩)).trans (h.gr.block k hk hn)⟩, owns_grow h.own gr fun k hk => .inr hk⟩, fun w k h hk => ?_⟩
  rcases hk with hk | hk
  · exact Nat.lt_of_lt_of_le hk.1 h.gr.size
  · exact (h.own.lt k hk).2
theorem RO.start (w : World) (g e sz : Nat) : RO w g e sz (.slice none 0 0) 0 [] w := ⟨Grow.refl _ _, World.ownsRow_nil _ _ _ _⟩
theorem RO.not {w : World} {g : Nat} : ¬ ROF w g (.slice none 0 0) g := by
  rintro (h | h)
  · exact h.2 rfl
  · cases h
theorem Grow.trans {F : Nat → Prop} {a b c : World} (h : Grow F a b) (k : Grow F b c) : Grow F a c := ⟨k.os.trans h.os, k.tape.trans h.tape, k.output.trans h.output, Nat.le_trans h.size k.size, fun i hi hF => (k.block i (Nat.lt_of_lt_of_le hi h.size) hF).trans (h.block i hi hF)⟩
/-- Behind a method called on the same reader, whose row is number 0. -/
theorem SI.rcall {wE : World} {g e sz : Nat} {v : Value} {n : Nat} {xs : List Value} {w w' : World} {ds : List Deferred} {β : Nat → Nat} {c : Cf} {a : Act} {r0 r : Array Value} (I : SI (RO wE g e sz v n xs) (ROF wE g v) ds β c a w) (hb : β 0 = g) (hlt : g < wE.heap.size) (hg : Grow (fun k => k ≠ g) w w') (hr : HasRow w' g r) (x : Value) (hid : rowOf c.rows 0 = some r0) :
    SI (RO wE g e sz v n xs) (ROF wE g v) ds β (rowQ (nxtQ c x) 0 r) (a.put (dstQ c) x) w' := by
  refine I.rowed hid ⟨hg.os, hg.tape, hg.output, hg.size, fun k hk hn => hg.block k hk (by rw [← hb]; exact hn.2)⟩ (by rw [hb]; exact hr) ⟨I.hJ.gr.trans hg, owns_grow I.hJ.own hg fun k hk e => ?_⟩ (fun _ _ h => h) x
  have := (I.hJ.own.lt k hk).1
  omega
/-- A method called on the same reader: it hands back what post says, its row is r then; or it throws. -/
theorem rmcall {wE : World} {g e sz : Nat} {v : Value} {n : Nat} {xs : List Value} {w : World} {ds : List Deferred} {β : Nat → Nat} {c : Cf} {a : Act} {Q : Exit → Act → World → Prop} {f : Nat} {fn : Func} (args : List Value) (hf : Tryd.prog.funcs[f]? = some fn) (r0 r : Array Value) (I : SI (RO wE g e sz v n xs) (ROF wE g v) ds β c a w) (hb : β 0 = g) (hlt : g < wE.heap.size) {x : Value}
    (hcall : Calls Tryd.prog f (ptr0 g :: args).toArray w fun e w' => e = .returned x ∧ HasRow w' g r ∧ Grow (fun k => k ≠ g) w w')
    (k : ∀ w', SI (RO wE g e sz v n xs) (ROF wE g v) ds β (rowQ (nxtQ c x) 0 r) (a.put (dstQ c) x) w' → At Tryd.prog Q (rowQ (nxtQ c x) 0 r) (a.put (dstQ c) x) w')
    (hc : callQ c = some (f, Sum.inr (0, 0) :: args.map Sum.inl) := by kernel_rfl) (hid : rowOf c.rows 0 = some r0 := by kernel_rfl) (hbd : fn.body.isNone = false := by kernel_rfl) (hn : (fn.name == "runtime.NumGoroutine") = false := by kernel_rfl) : At Tryd.prog Q c a w := by
  refine mcall hf I ?_ hc hbd hn
  have e : ((Sum.inr (0, 0) :: args.map Sum.inl).map (up β)) = ptr0 g :: args := by
    simp only [List.map_cons, List.map_map, up, List.cons.injEq, hb]
    exact ⟨trivial, List.map_id _⟩
  rw [e]
  refine hcall.mono fun e w1 he => ?_
  obtain ⟨rfl, hr, hg⟩ := he
  exact (at_row (id := 0) (r := r)).1 (k w1 (I.rcall hb hlt hg hr x hid))
/-- The same where it throws. -/
theorem rthrow {J : World → Prop} {F : Nat → Prop} {w : World} {ds : List Deferred} {β : Nat → Nat} {c : Cf} {a : Act} {Q : Exit → Act → World → Prop} {f : Nat} {fn : Func} (ss : List SV) (hf : Tryd.prog.funcs[f]? = some fn) (I : SI J F ds β c a w) {ch : List PanicEntry} (post : World → Prop)
    (hcall : Calls Tryd.prog f (ss.map (up β)).toArray w fun e w' => e = .panicked ch ∧ post w') (k : ∀ w', post w' → Q (.panic ch) a w')
    (hc : callQ c = some (f, ss) := by kernel_rfl) (hbd : fn.body.isNone = false := by kernel_rfl) (hn : (fn.name == "runtime.NumGoroutine") = false := by kernel_rfl) : At Tryd.prog Q c a w := by
  refine mcall hf I (hcall.mono fun e w1 he => ?_) hc hbd hn
  obtain ⟨rfl, hp⟩ := he
  exact k w1 hp
end Go.Proofs.YtjjiendgmnlokaaDoor
