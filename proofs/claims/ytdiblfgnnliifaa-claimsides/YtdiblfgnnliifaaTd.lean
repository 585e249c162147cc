/- A row of function values, called one after the other up to the first error. -/
import Derived.Test.YtdiblfgnnliifaaTc
namespace Go.Proofs.Ytdiblfgnnliifaa
open Go.RowKit Go.Sort
set_option linter.unusedVariables false
set_option maxRecDepth 100000
abbrev cfQ (ks : List Ki) (tm : Vs) (rows : Rows) (nx : Nat) : Cf := { ops := #[], rest := [], ks := ks, tm := tm, rows := rows, nx := nx, dn := none }
section
variable {P : Program} {J : World → Prop} {F : Nat → Prop} {ds : List Deferred} {β : Nat → Nat} {c : Cf} {a : Act} {w : World} {Q Q' : Exit → Act → World → Prop}
theorem wp_monoQ {Q' : Exit → Act → World → Prop} {o : Oper} {a : Act} {w : World} {K : Act → World → Prop} (hp : ∀ ch a w, Q' (.panic ch) a w → Q (.panic ch) a w) (ho : ∀ a w, Q' .outgrown a w → Q .outgrown a w) (h : o.wp P a w K Q') : o.wp P a w K Q := by
  unfold Oper.wp at *
  generalize (execOp a.eval o).run P w = r at *
  cases r with
  | ok x w' =>
    cases x with
    | enter f args =>
      refine Calls.mono h fun e w'' he => ?_
      cases e with
      | returned v => exact he
      | panicked ch => exact hp _ _ _ he
      | outgrown => obtain ⟨a, w, h⟩ := he; exact ⟨a, w, ho _ _ h⟩
    | row r args => exact h
    | value v => exact h
    | skip => exact h
    | defer d => exact h
    | _ => exact h.elim
  | halt x w' => cases x <;> first | exact hp _ _ _ h | exact h.elim
/-- The first operations of a region in its order; the others behind them. -/
def thenL (n : Nat) (P : Program) (ops : Array Oper) (Q : Exit → Act → World → Prop) (post : List Oper) : Exit → Act → World → Prop
  | .normal, a, w => wpListIn Fence.wide n P ops Q post a w
  | e, a, w => Q e a w
theorem QK.mono (h : ∀ e a w, Q' e a w → Q e a w) : ∀ (ks : List Ki) (e : Exit) (a : Act) (w : World), QK P Q' ks e a w → QK P Q ks e a w
  | [], e, a, w, hh => h e a w hh
  | Sum.inl x :: ks, e, a, w, hh => by
    cases e with
    | normal => exact Code.wp_mono (fun e a w h2 => QK.mono h ks e a w h2) hh
    | _ => exact QK.mono h ks _ a w hh
  | Sum.inr id :: ks, e, a, w, hh => by
    cases e with
    | exit i =>
      simp only [QK, Exit.inBlock] at hh ⊢
      split
      · next hi => rw [if_pos hi] at hh; exact QK.mono h ks _ a w hh
      · next hi => rw [if_neg hi] at hh; exact QK.mono h ks _ a w hh
    | _ => exact QK.mono h ks _ a w hh
theorem wpL_monoQ {ops : Array Oper} (h : ∀ e a w, Q' e a w → Q e a w) : ∀ (l : List Oper) (a : Act) (w : World), wpL P ops Q' l a w → wpL P ops Q l a w
  | [], a, w, hh => h _ a w hh
  | o :: os, a, w, hh => by
    unfold wpL at hh ⊢
    split
    · next hw => rw [if_pos hw] at hh; exact wp_monoQ (fun ch a w => h _ a w) (fun a w => h _ a w) (Oper.wp_mono (fun a w h2 => wpL_monoQ h os a w h2) hh)
    · next hw => rw [if_neg hw] at hh; exact wpL_monoQ h os _ w hh
theorem At.mono (h : ∀ e a w, Q' e a w → Q e a w) (hh : At P Q' c a w) : At P Q c a w := by
  refine ⟨?_⟩
  have := hh.out
  unfold AtD at this ⊢
  split
  · next e he => rw [he] at this; exact h e a w this
  · next he => rw [he] at this; exact wpL_monoQ (QK.mono h c.ks) _ a w this
def scQ (c : Cf) : Option (Code × List Ki) := match c.dn, c.rest, c.ks with
  | none, [], Sum.inl (.scope x) :: ks => some (x, ks)
  | _, _, _ => none
def scX (c : Cf) : Code := ((scQ c).map (·.1)).getD .skip
def scK (c : Cf) : List Ki := ((scQ c).map (·.2)).getD []
/-- Into a scope, out of which nothing is gone to. -/
theorem scopeQ (I : SI J F ds β c a w) (h : SI J F ds β (cfQ [Sum.inl (scX c)] c.tm c.rows c.nx) a w → At P (Exit.noGoto (QK P Q (scK c))) (cfQ [Sum.inl (scX c)] c.tm c.rows c.nx) a w) (hc : (scQ c).isSome = true := by kernel_rfl) : At P Q c a w := by
  replace h := h (I.cf rfl rfl rfl)
  cases hq : scQ c with
  | none => rw [hq] at hc; cases hc
  | some r =>
    unfold scX scK at h
    simp only [hq, Option.map_some, Option.getD_some] at h
    unfold scQ at hq
    split at hq
    · next x ks hd hr hk =>
      cases hq
      refine ⟨?_⟩
      unfold AtD
      rw [hd, hr, hk]
      exact wp_scope_straight h.out
    · cases hq
def lbQ (c : Cf) : Option (Code × List Ki) := match c.dn, c.rest, c.ks with
  | none, [], Sum.inl (.seq (.label _) x) :: ks => some (x, ks)
  | _, _, _ => none
def lbX (c : Cf) : Code := ((lbQ c).map (·.1)).getD .skip
def lbK (c : Cf) : List Ki := ((lbQ c).map (·.2)).getD []
theorem labelQ (I : SI J F ds β c a w) (h : SI J F ds β (cfQ (Sum.inl (lbX c) :: lbK c) c.tm c.rows c.nx) a w → At P Q (cfQ (Sum.inl (lbX c) :: lbK c) c.tm c.rows c.nx) a w) (hc : (lbQ c).isSome = true := by kernel_rfl) : At P Q c a w := by
  replace h := h (I.cf rfl rfl rfl)
  cases hq : lbQ c with
  | none => rw [hq] at hc; cases hc
  | some r =>
    unfold lbX lbK at h
    simp only [hq, Option.map_some, Option.getD_some] at h
    unfold lbQ at hq
    split at hq
    · next l x ks hd hr hk =>
      cases hq
      refine ⟨?_⟩
      unfold AtD
      rw [hd, hr, hk]
      exact wp_seq (wp_label h.out)
    · cases hq
/-- Only by return. -/
def onlyR (Q : Exit → Act → World → Prop) (e : Exit) (a : Act) (w : World) : Prop := e = .ret ∧ Q .ret a w
theorem onlyR.pan : PanOk (onlyR Q) := ⟨fun ch a a' w h h1 => by cases h1.1⟩
end

section
variable {P : Program} {J J' : World → Prop} {F F' : Nat → Prop} {ds : List Deferred} {β : Nat → Nat} {c : Cf} {a : Act} {w w' : World} {Q : Exit → Act → World → Prop}
theorem atR (h : Q .ret a w) (hd : c.dn = some .ret := by kernel_rfl) : At P Q c a w := ⟨by unfold AtD; rw [hd]; exact h⟩
/-- Where no row is known, a call may leave another resource. -/
theorem SI.swap (I : SI J F ds β c a w) (h : J' w') (v : Value) (hr : c.rows = [] := by kernel_rfl) : SI J' F' ds β (nxtQ c v) (a.put (dstQ c) v) w' := by
  have hr' : (nxtQ c v).rows = [] := hr
  refine ⟨putQ_fr I.fr (dstQ c) (some (Sum.inl v)), ?_, h, fun p hp => ?_, fun p hp => ?_, fun p hp => ?_, fun p hp => ?_, idsB_put I.ids (dstQ c) (fun i o h => by cases h)⟩
  · cases dstQ c <;> exact I.df
  all_goals rw [hr'] at hp; cases hp
end
def loopsS : Code → List Code
  | .seq x y => loopsS x ++ loopsS y
  | .block _ x => loopsS x
  | .cond _ x y => loopsS x ++ loopsS y
  | .scope x => loopsS x
  | .loop x => [x]
  | _ => []
def bOf (fn : Func) : Code := ((loopsS (fn.body.getD .skip))[0]?).getD .skip
def bIf (fn : Func) : Code := ((loopsS (bOf fn))[0]?).getD .skip
abbrev boK : List Nat := [3, 7, 8, 9]
abbrev boV (g M i : Nat) : Vs := frm 24 [(3, Sum.inl (Z 0)), (7, Sum.inl (.slice (some ⟨g, 0, none⟩) M M)), (8, Sum.inl (Z M)), (9, Sum.inl (Z i))]
abbrev biK : List Nat := [3, 5, 7, 8, 9, 13]
abbrev biV (g M i : Nat) (f : Value) (s : Nat) : Vs := frm 24 [(3, Sum.inl (Z 0)), (5, Sum.inl f), (7, Sum.inl (.slice (some ⟨g, 0, none⟩) M M)), (8, Sum.inl (Z M)), (9, Sum.inl (Z i)), (13, Sum.inl (Z s))]
theorem run_neE {x y : Int} {b : Bool} (h : decide (x ≠ y) = b) (o1 o2 : Operand) (w : World) : (do eqGuard .neq 28 o1 o2 (Z x) (Z y); binOp .neq 28 (Z x) (Z y) : Sem Value).run Try.prog w = .ok (.bool b) w := by subst h; by_cases hx : x = y <;> simp [go_sem, hx]
theorem run_eqE {x y : Int} {b : Bool} (h : decide (x = y) = b) (o1 o2 : Operand) (w : World) : (do eqGuard .eql 28 o1 o2 (Z x) (Z y); binOp .eql 28 (Z x) (Z y) : Sem Value).run Try.prog w = .ok (.bool b) w := by subst h; by_cases hx : x = y <;> simp [go_sem, hx]
set_option maxHeartbeats 2000000 in
theorem both_any {w : World} {g M : Nat} (hM : M ≤ 3) (fv : Nat → Nat) (cs : Nat → List Value) (S : Nat → World → Prop) (Fs : Nat → Nat → Prop) (hR : ∀ k, Rsrc (S k) (Fs k)) (X : Int → World → Prop) (FX : Nat → Prop) (hX : ∀ er, Rsrc (X er) FX)
    (hfn : ∀ i, i < M → ∃ fn, Try.prog.funcs[fv i]? = some fn ∧ fn.body.isNone = false ∧ (fn.name == "runtime.NumGoroutine") = false)
    (hld : ∀ i k w', i < M → S k w' → (loadVar 50 ⟨g, 0 + i * 1, none⟩).run Try.prog w' = .ok (.func (.func (fv i)) #[] (cs i).toArray) w')
    (step : ∀ i s w', i < M → s < 2 → S (2 * i + s) w' → Calls Try.prog (fv i) (Z (s : Nat) :: cs i).toArray w' fun e w'' => (e = .returned (Z 0) ∧ S (2 * i + s + 1) w'') ∨ ∃ er, er ≠ 0 ∧ e = .returned (Z er) ∧ X er w'')
    (h0 : S 0 w) : Calls Try.prog 24 #[.slice (some ⟨g, 0, none⟩) M M] w fun e w' => (e = .returned (Z 0) ∧ S (2 * M) w') ∨ ∃ er, er ≠ 0 ∧ e = .returned (Z er) ∧ X er w' := by
  refine inQ (J := S 0) (F := Fs 0) Try.func24 h0 fun a I => ?_
  refine goQ [] (hR 0) I fun β1 a1 w1 I hb1 => ?_
  refine scopeQ I fun I => ?_
  refine At.mono (Q' := onlyR (bodyPost Try.prog Try.f24 fun e w' => (e = .returned (Z 0) ∧ S (2 * M) w') ∨ ∃ er, er ≠ 0 ∧ e = .returned (Z er) ∧ X er w')) (fun e a w h => ?_) ?_
  · obtain ⟨rfl, h⟩ := h
    exact h
  refine goQ [] (hR 0) I fun β2 a2 w2 I hb2 => ?_
  refine labelQ I fun I => ?_
  refine goQ [lS Try.underlying62 (ad := some ⟨g, 0, none⟩) (n := M) (cap := M) rfl] (hR 0) I fun β3 a3 w3 I hb3 => ?_
  refine lpM (bOf Try.f24) (fun k a w' => ∃ (i : Nat) (β : Nat → Nat) (u : Nat → Value), k = M - i ∧ i ≤ M ∧ SI (S (2 * i)) (Fs (2 * i)) [] β (cfC (bOf Try.f24) (fillF (scrF 24 boK) u 0 (boV g M i)) [] 0) a w') M ?_ ?_
  · obtain ⟨u, Iu⟩ := I.scr (bOf Try.f24) (scrF 24 boK) (boV g M 0) [] 0
    exact ⟨0, β3, u, by omega, Nat.zero_le _, Iu⟩
  rintro k a4 w4 ⟨i, β4, u, rfl, hi, I⟩
  refine wp_cfC (tm := fillF (scrF 24 boK) u 0 (boV g M i)) (rows := []) (nx := 0) ?_
  rcases Nat.lt_or_ge i M with hil | hil
  · obtain ⟨fn, hf, hb, hn⟩ := hfn i hil
    have hl1 : ∀ w', S (2 * i) w' → (loadVar 50 ⟨g, 0 + i * 1, none⟩).run Try.prog w' = .ok (.func (.func (fv i)) #[] (cs i).toArray) w' := fun w' hs => hld i _ w' hil hs
    refine goT (T := S (2 * i)) [lT i M (by omega), iA 62 Try.underlying62 (sz := 1) (by kernel_rfl) (g := g) (off := 0) (n := M) (cap := M) hil, ldA 50 hl1] (hR _) (fun _ h => h) I fun β5 a5 w5 I hb5 => ?_
    refine lpM (bIf Try.f24) (fun k a w' => ∃ (s : Nat) (β : Nat → Nat) (u : Nat → Value), k = 2 - s ∧ s ≤ 2 ∧ SI (S (2 * i + s)) (Fs (2 * i + s)) [] β (cfC (bIf Try.f24) (fillF (scrF 24 biK) u 0 (biV g M i (.func (.func (fv i)) #[] (cs i).toArray) s)) [] 0) a w') 2 ?_ ?_
    · obtain ⟨u, Iu⟩ := I.scr (bIf Try.f24) (scrF 24 biK) (biV g M i (.func (.func (fv i)) #[] (cs i).toArray) 0) [] 0
      exact ⟨0, β5, u, by omega, Nat.zero_le _, Iu⟩
    rintro k a6 w6 ⟨s, β6, u6, rfl, hs, I⟩
    refine wp_cfC (tm := fillF (scrF 24 biK) u6 0 (biV g M i (.func (.func (fv i)) #[] (cs i).toArray) s)) (rows := []) (nx := 0) ?_
    rcases Nat.lt_or_ge s 2 with hsl | hsl
    · refine goQ [bO .lss 3 (run_lssZ (x := s) (y := 2) (b := true) (decide_eq_true (by omega)))] (hR _) I fun β7 a7 w7 I hb7 => ?_
      refine inY I fun I => ?_
      refine goQ [] (hR _) I fun β8 a8 w8 I hb8 => ?_
      have hst := step i s w8 hil hsl I.hJ
      have e0 : ([Sum.inl (Z s)] ++ (cs i).map Sum.inl : List SV).map (up β8) = Z (s : Nat) :: cs i := by simp [up, Function.comp_def]
      rw [← e0] at hst
      refine mcallX ([Sum.inl (Z s)] ++ (cs i).map Sum.inl) hf I (hst.mono fun e w9 he => ?_) (by kernel_rfl) hb hn
      rcases he with ⟨rfl, hS⟩ | ⟨er, her, rfl, hx⟩
      · refine goQ [bO .neq 28 (run_neE (x := 0) (y := 0) (b := false) rfl), p1 s (by omega)] (hR _) (I.swap (F' := Fs (2 * i + s + 1)) hS (Z 0)) fun β10 a10 w10 I hb10 => ?_
        obtain ⟨u', Iu⟩ := I.scr (bIf Try.f24) (scrF 24 biK) (biV g M i (.func (.func (fv i)) #[] (cs i).toArray) (s + 1)) [] 0
        exact endL ⟨2 - (s + 1), by omega, s + 1, β10, u', rfl, hsl, Iu⟩
      · refine goQ [bO .neq 28 (run_neE (x := er) (y := 0) (b := true) (decide_eq_true her))] (hX er) (I.swap (F' := FX) hx (Z er)) fun β10 a10 w10 I hb10 => ?_
        refine endE 0 ?_
        refine endE 0 ?_
        refine goQ [] (hX er) ((I.exit _).exit _) fun β11 a11 w11 I hb11 => ?_
        exact atR ⟨rfl, retV (v := Z er) I (.inr ⟨er, her, rfl, I.hJ⟩)⟩
    · obtain rfl : s = 2 := by omega
      refine goQ [bO .lss 3 (run_lssZ (x := (2 : Nat)) (y := 2) (b := false) (decide_eq_false (by omega)))] (hR _) I fun β7 a7 w7 I hb7 => ?_
      refine endE 2 ?_
      refine goQ [p1 i (by omega)] (hR _) (I.exit _) fun β8 a8 w8 I hb8 => ?_
      obtain ⟨u', Iu⟩ := I.scr (bOf Try.f24) (scrF 24 boK) (boV g M (i + 1)) [] 0
      exact endL ⟨M - (i + 1), by omega, i + 1, β8, u', rfl, hil, Iu⟩
  · obtain rfl : i = M := by omega
    refine goQ [lF i i (by omega)] (hR _) I fun β5 a5 w5 I hb5 => ?_
    refine endE 0 ?_
    refine goQ [] (hR _) (I.exit _) fun β6 a6 w6 I hb6 => ?_
    exact atR ⟨rfl, retV (v := Z 0) I (.inl ⟨rfl, I.hJ⟩)⟩
end Go.Proofs.Ytdiblfgnnliifaa
