/- Write of both sides; the step that is put off. -/
import Derived.Test.YthmhlbikejodaaaBa
import Derived.Tactics
import Derived.Tactics2
import Derived.Defers
import Derived.Recover
namespace Go.Proofs.Ythmhlbikejodaaa
open Go.RowKit Go.Sort
set_option linter.unusedVariables false
set_option maxRecDepth 100000
section
variable {P : Program} {J : World → Prop} {F : Nat → Prop} {ds : List Deferred} {β : Nat → Nat} {c : Cf} {a : Act} {w : World} {Q : Exit → Act → World → Prop}
theorem atEnd {e : Exit} (h : Q e a w) (hd : c.dn = some e := by kernel_rfl) : At P Q c a w := ⟨by unfold AtD; rw [hd]; exact h⟩
/-- The closure that is put off next, without arguments. -/
def dfQ (c : Cf) : Option SV := match opAtQ c with
  | some o => match o.op with
    | .defer { callee := .value x, args := xs, argTypes := _ } => if xs.isEmpty = true then evQ c.tm x else none
    | _ => none
  | none => none
theorem dfrQ {f : Nat} {cap : Array Value} (I : SI J F ds β c a w) (k : ∀ a', SI J F ({ target := .fn (.func f) cap, args := #[] } :: ds) β (nextQ c (dstQ c) none) a' w → At P Q (nextQ c (dstQ c) none) a' w) (hc : dfQ c = some (Sum.inl (.func (.func f) #[] cap)) := by kernel_rfl) : At P Q c a w := by
  unfold dfQ at hc
  split at hc
  · next o ho =>
    split at hc
    · next x xs ts hop =>
      split at hc
      · next hf =>
        have hxe : xs = #[] := by simpa using hf
        obtain ⟨hd, ⟨rest, hr⟩, hw⟩ := opAtQ_some ho
        refine at_cons hd hr (wantQ_ok I hw) ?_
        have hrun : (execOp a.eval o).run P w = .ok (.defer { target := .fn (.func f) cap, args := #[] }) w := by
          unfold execOp
          simp [hop, hxe, resolve, evQ_ok I.fr hc, up, Deferred.ofValue]
        unfold Oper.wp
        rw [hrun]
        have hk := (k ({ a with defers := { target := .fn (.func f) cap, args := #[] } :: a.defers }.put o.dst undef) ?_).out
        · unfold AtD at hk
          simp only [nextQ, hd, dstQ, hr, List.tail_cons, List.head?_cons, Option.bind_some] at hk
          exact hk
        · have hdst : dstQ c = o.dst := by simp [dstQ, hr]
          rw [hdst]
          refine ⟨?_, ?_, I.hJ, I.row, I.dis, I.lt, I.inj, idsB_put I.ids _ (by intro i o h; cases h)⟩
          · exact putQ_fr (a := { a with defers := { target := .fn (.func f) cap, args := #[] } :: a.defers }) I.fr o.dst none
          · rw [← I.df]; cases o.dst <;> rfl
      · cases hc
    · cases hc
  · cases hc
/-- Without panics. -/
def noP (Q : Exit → Act → World → Prop) : Exit → Act → World → Prop := fun e a w => match e with
  | .panic _ => False
  | e => Q e a w
theorem noP_ok {Q : Exit → Act → World → Prop} : PanOk (noP Q) := ⟨fun ch a a' w _ h => h.elim⟩
theorem inD {f : Nat} {fn : Func} {args : Array Value} {Rt : Ending → World → Prop} (hf : P.funcs[f]? = some fn) (hJ : J w)
    (k : ∀ a, SI J F [] (fun _ => 0) (cfF fn args) a w → At P (noP (bodyPostD P fn Rt)) (cfF fn args) a w) (hb : fn.body.isSome = true := by kernel_rfl) : Calls P f args w Rt := by
  have hb' : fn.body = some (fn.body.getD .skip) := by
    cases h : fn.body with
    | none => rw [h] at hb; cases hb
    | some x => rfl
  refine calls_of_wp_defers hf hb' (Code.wp_mono (Q := noP (bodyPostD P fn Rt)) (fun e a w h => ?_) (wp_cfC (k _ ⟨?_, rfl, hJ, ?_, ?_, ?_, ?_, ?_⟩)))
  · cases e <;> first | exact h | exact h.elim
  · apply Array.ext'
    simp [begX, upO]
    exact (List.map_id _).symm
  · intro p hp; cases hp
  · intro p hp; cases hp
  · intro p hp; cases hp
  · intro p hp; cases hp
  · simp [begX, idsB]
/-- Into a step that was put off. -/
theorem inS {f : Nat} {fn : Func} (ss : List SV) {rows : Rows} {nx : Nat} {R : Ending → FrameMode → World → Prop} (hf : P.funcs[f]? = some fn) (hJ : J w) (hr : ∀ p ∈ rows, HasRow w (β p.1) p.2) (hd : ∀ p ∈ rows, ¬ F (β p.1)) (hi : ∀ p ∈ rows, ∀ q ∈ rows, p.1 ≠ q.1 → β p.1 ≠ β q.1)
    (k : ∀ c₀ cs a, c₀.mode = .returning → SI J F [] β (cfR fn ss rows nx) a w → At P (fun e a' w' => bodyPostS P fn c₀ cs R e a' (c₀ :: cs) w') (cfR fn ss rows nx) a w) (hl : ∀ p ∈ rows, p.1 < nx) (hb : fn.body.isSome = true := by kernel_rfl) (hids : idsB (ss.map some) nx = true := by kernel_rfl) : CallsD P f (ss.map (up β)).toArray .returning w R := by
  have hb' : fn.body = some (fn.body.getD .skip) := by
    cases h : fn.body with
    | none => rw [h] at hb; cases hb
    | some x => rfl
  refine callsD_of_wpS hf hb' fun c₀ cs hu => wpS_of_wp (wp_cfC (k c₀ cs _ hu ⟨?_, rfl, hJ, hr, hd, hl, hi, ?_⟩))
  · apply Array.ext'
    simp [upO, Function.comp_def]
  · unfold idsB at hids ⊢
    rw [List.all_append, hids]
    simp
/-- Out of it. -/
theorem outS {fn : Func} {R : Ending → FrameMode → World → Prop} {c₀ : Frame} {cs : List Frame} (hu : c₀.mode = .returning) (I : SI J F [] β c a w) (hr : fn.results = #[]) (h : R (.returned (.tuple #[])) .returning w) (hd : c.dn = some .normal := by kernel_rfl) : At P (fun e a' w' => bodyPostS P fn c₀ cs R e a' (c₀ :: cs) w') c a w := by
  refine atEnd (e := .normal) ⟨I.df, .returning, ?_, .tuple #[], results_none hr _ _ _, h⟩ hd
  cases c₀
  simp only at hu
  subst hu
  rfl
end
theorem agL {n m : Nat} {β β' : Nat → Nat} (h : Agree m β β') (hn : decide (n ≤ m) = true := by kernel_rfl) : Agree n β β' := fun i hi => h i (Nat.lt_of_lt_of_le hi (of_decide_eq_true hn))
theorem agT {n : Nat} {β β' β'' : Nat → Nat} (h : Agree n β β') (k : Agree n β' β'') : Agree n β β'' := fun i hi => (k i hi).trans (h i hi)
/-- What both a function and its put off step know. -/
structure RW (w0 : World) (β : Nat → Nat) (R : Rows) (w : World) : Prop where
  bel : Below w0.heap.size w0 w
  row : ∀ p ∈ R, HasRow w (β p.1) p.2
  dis : ∀ p ∈ R, ¬ β p.1 < w0.heap.size
  inj : ∀ p ∈ R, ∀ q ∈ R, p.1 ≠ q.1 → β p.1 ≠ β q.1
abbrev bR (d t t1 s : By) (f f1 : Int) (o o1 : Bool) (e : Int) : Rows := [(3, #[Z e]), (2, #[str d, str t1, Z f1, .bool o1]), (1, #[str s]), (0, #[str d, str t, Z f, .bool o])]
abbrev ss25 : List SV := [Sum.inr (2, 0), Sum.inr (0, 0), Sum.inr (1, 0), Sum.inr (3, 0)]
theorem of_SI {w0 : World} {ds : List Deferred} {β β0 : Nat → Nat} {c : Cf} {a : Act} {w : World} (I : SI (Below w0.heap.size w0) (· < w0.heap.size) ds β c a w) (n : Nat) (hag : Agree n β0 β) (R : Rows) (h : R.map (fun p => rowOf c.rows p.1) = R.map (fun p => some p.2) := by kernel_rfl) (hn : (R.all fun p => decide (p.1 < n)) = true := by kernel_rfl) : RW w0 β0 R w := by
  have h1 : ∀ p ∈ R, (p.1, p.2) ∈ c.rows ∧ β p.1 = β0 p.1 := fun p hp => ⟨rowOf_mem (List.map_inj_left.1 h p hp), hag _ (of_decide_eq_true (List.all_eq_true.1 hn p hp))⟩
  refine ⟨I.hJ, fun p hp => ?_, fun p hp => ?_, fun p hp q hq hne => ?_⟩
  · rw [← (h1 p hp).2]; exact I.row _ (h1 p hp).1
  · rw [← (h1 p hp).2]; exact I.dis _ (h1 p hp).1
  · rw [← (h1 p hp).2, ← (h1 q hq).2]; exact I.inj _ (h1 p hp).1 _ (h1 q hq).1 hne
theorem back_SI {w0 : World} {ds : List Deferred} {β : Nat → Nat} {c : Cf} {a : Act} {w w' : World} {R : Rows} (I : SI (Below w0.heap.size w0) (· < w0.heap.size) ds β c a w) (H : RW w0 β R w') (hl : (R.all fun p => decide (p.1 < c.nx)) = true := by kernel_rfl) : SI (Below w0.heap.size w0) (· < w0.heap.size) ds β { c with rows := R } a w' :=
  ⟨I.fr, I.df, H.bel, H.row, H.dis, fun p hp => of_decide_eq_true (List.all_eq_true.1 hl p hp), H.inj, I.ids⟩
theorem end_RW {w0 : World} {ds : List Deferred} {β : Nat → Nat} {c : Cf} {a : Act} {w w' : World} {R : Rows} (I : SI (Below w0.heap.size w0) (· < w0.heap.size) ds β c a w) (H : RW w0 β R w') {fn : Func} {v : Value} (hr : resX Try.prog fn (c.tm, R, c.nx) = some v) (hl : (R.all fun p => decide (p.1 < c.nx)) = true := by kernel_rfl) : (results fn a.tmps).run Try.prog w' = .ok v w' :=
  resX_ok (st := (c.tm, R, c.nx)) (back_SI I H hl).inv hr
/-- What is left of the fuse is reckoned behind the write. -/
theorem step_any {w0 : World} {β : Nat → Nat} (d t t1 s : By) (f f1 : Int) (o o1 : Bool) (e : Int) (k : Nat) (ht : t1.length = t.length + k) (hz : t1.length ≤ 1000000000000) (hs : s.length ≤ 1000000000000) (hf : 0 ≤ f1 ∧ f1 ≤ 1000000000000) {w : World} (H : RW w0 β (bR d t t1 s f f1 o o1 e) w) :
    CallsD Try.prog 25 (ss25.map (up β)).toArray .returning w fun r u' w' => r = .returned (.tuple #[]) ∧ u' = .returning ∧ RW w0 β (bR d t t1 s f (f1 - k) o (if k < s.length then true else o1) (if k < s.length then 26 else e)) w' := by
  obtain ⟨z, hzk⟩ : ∃ z : Int, (k : Int) = z := ⟨_, rfl⟩
  have hw1 : IntKind.i64.wrap ((t1.length : Int) - t.length) = z := by rw [wz (by omega) (by omega)]; omega
  obtain ⟨f2, hf2⟩ : ∃ f2 : Int, f1 - z = f2 := ⟨_, rfl⟩
  have hw2 : IntKind.i64.wrap (f1 - z) = f2 := by rw [wz (by omega) (by omega)]; exact hf2
  refine inS (J := Below w0.heap.size w0) (F := (· < w0.heap.size)) (nx := 4) ss25 Try.func25 H.bel H.row H.dis H.inj (fun c₀ cs a hu I => ?_) (by simp)
  rw [hzk, hf2]
  by_cases hk : k < s.length
  · rw [if_pos hk, if_pos hk]
    refine goQ [lnO t1, lnO t, bO .sub 3 (run_subZ (x := t1.length) (y := t.length) (z := z) hw1), bO .sub 3 (run_subZ (x := f1) (y := z) (z := f2) hw2), lnO s, bO .lss 3 (run_lssZ (x := z) (y := s.length) (b := true) (decide_eq_true (by omega)))] (nonR w0) I fun β1 a1 w1 I hb => ?_
    exact outS hu I rfl ⟨rfl, rfl, of_SI I 4 hb _⟩
  · rw [if_neg hk, if_neg hk]
    refine goQ [lnO t1, lnO t, bO .sub 3 (run_subZ (x := t1.length) (y := t.length) (z := z) hw1), bO .sub 3 (run_subZ (x := f1) (y := z) (z := f2) hw2), lnO s, bO .lss 3 (run_lssZ (x := z) (y := s.length) (b := false) (decide_eq_false (by omega)))] (nonR w0) I fun β1 a1 w1 I hb => ?_
    exact outS hu I rfl ⟨rfl, rfl, of_SI I 4 hb _⟩
theorem burn_any (d t s : By) (f : Int) (o : Bool) (hf : 0 ≤ f ∧ f ≤ 1000000000) (ht : t.length ≤ 1000000000) (hs : s.length ≤ 1000000000) (w : World) : Calls Try.prog 23 #[dk d t f o, str s] w (Rt0 (.tuple #[dk d (t ++ s.take f.toNat) (f - (min f.toNat s.length : Nat)) (if min f.toNat s.length < s.length then true else o), Z (if min f.toNat s.length < s.length then 26 else 0)]) w) := by
  have hfi := first_any s f
  obtain ⟨k, hk⟩ : ∃ k, min f.toNat s.length = k := ⟨_, rfl⟩
  have hl : (s.take f.toNat).length = k := by rw [List.length_take]; exact hk
  rw [hk]
  generalize s.take f.toNat = s' at *
  refine inD (J := Below w.heap.size w) (F := (· < w.heap.size)) Try.func23 (Below.refl _ _) fun a I => ?_
  refine goQ [] (nonR w) I fun β1 a1 w1 I hb1 => ?_
  refine mkfX (fn := .func 25) (ss := ss25) I ?_
  refine dfrQ (f := 25) (cap := (ss25.map (up β1)).toArray) (I.same _) fun a2 I => ?_
  refine goQ [] (nonR w) I fun β3 a3 w3 I hb3 => ?_
  refine dwQ 8 [kC Try.func24 hfi, bO .add 9 (addS_run t s' (by omega))] (nonR w) noP_ok I fun a4 w4 I => ?_
  refine goQ [] (nonR w) I fun β5 a5 w5 I hb5 => ?_
  have hag : Agree 4 β1 β5 := agT (agL hb3) (agL hb5)
  have hss : (ss25.map (up β1)).toArray = (ss25.map (up β5)).toArray := by simp [up, hag 0, hag 1, hag 2, hag 3]
  have H : RW w β5 (bR d t (t ++ s') s f f o o 0) w5 := of_SI I 4 (fun _ _ => rfl) _
  refine atEnd (e := .ret) ?_
  show Leaves Try.prog Try.f23 a5.tmps _ a5.defers .returning w5
  rw [I.df, hss]
  refine leaves_cons (f := 25) (args := (ss25.map (up β5)).toArray) (by simp) (by simp [go_sem]) ?_
  refine (step_any d t (t ++ s') s f f o o 0 k (by rw [List.length_append, hl]) (by rw [List.length_append, hl]; omega) (by omega) (by omega) H).mono ?_
  rintro e u' w6 ⟨rfl, rfl, H6⟩
  exact ⟨.tuple #[dk d (t ++ s') (f - k) (if k < s.length then true else o), Z (if k < s.length then 26 else 0)], end_RW I H6 (by kernel_rfl), rfl, H6.bel⟩
end Go.Proofs.Ythmhlbikejodaaa
