/- Calls of a round. -/
import Derived.Test.YtabghfcjpaileaaKg
namespace Go.Proofs.Ytabghfcjpaileaa
open Go.RowKit Go.Sort Go.Shelf
set_option linter.unusedVariables false
set_option maxRecDepth 100000
theorem SI.rebase {J : World → Prop} {F : Nat → Prop} {ds : List Deferred} {β : Nat → Nat} {c c' : Cf} {a : Act} {w : World} (I : SI J F ds β c a w) (h1 : c'.tm = c.tm) (h2 : c'.rows = []) (h3 : c'.nx = c.nx) {w' : World} : SI (RowKit.Below w'.heap.size w') (· < w'.heap.size) ds β c' a w' := by
  refine ⟨by rw [h1]; exact I.fr, I.df, RowKit.Below.refl _ _, ?_, ?_, ?_, ?_, by rw [h1, h3]; exact I.ids⟩ <;> rw [h2] <;> intro p hp <;> cases hp
section
variable {P : Program} {J : World → Prop} {F : Nat → Prop} {ds : List Deferred} {β : Nat → Nat} {c : Cf} {a : Act} {w : World} {Q : Exit → Act → World → Prop} {n : Nat}
def rgQ (c : Cf) : Option (Array Oper × List Ki) := match c.dn, c.rest, c.ks with
  | none, [], Sum.inl (.region _ ops false) :: ks => some (ops, ks)
  | _, _, _ => none
abbrev rgO (c : Cf) : Array Oper := ((rgQ c).map (·.1)).getD #[]
abbrev rgK (c : Cf) : List Ki := ((rgQ c).map (·.2)).getD []
/-- Into a region that calls a value: its first operations. -/
theorem regY (n k : Nat) (h : At P (thenL n P (rgO c) (QK P Q (rgK c)) ((rgO c).toList.drop k)) (cfO (rgO c) ((rgO c).toList.take k) c.tm c.rows c.nx) a w) (hc : (rgQ c).isSome = true := by kernel_rfl) : At P Q c a w := by
  cases hq : rgQ c with
  | none => rw [hq] at hc; cases hc
  | some r =>
    unfold rgO rgK at h
    simp only [hq, Option.map_some, Option.getD_some] at h
    unfold rgQ at hq
    split at hq
    · next id ops ks hd hr hk =>
      cases hq
      refine ⟨?_⟩
      unfold AtD
      rw [hd, hr, hk]
      exact regS (n := n) k h
    · cases hq
abbrev cfQ (ks : List Ki) (tm : Vs) (rows : Rows) (nx : Nat) : Cf := { ops := #[], rest := [], ks := ks, tm := tm, rows := rows, nx := nx, dn := none }
theorem atK {ks : List Ki} (I : SI J F ds β c a w) (h : SI J F ds β (cfQ ks c.tm c.rows c.nx) a w → At P Q (cfQ ks c.tm c.rows c.nx) a w) : QK P Q ks .normal a w := (h (I.cf rfl rfl rfl)).out
/-- The call of a value that is next. -/
def yQ (ops : Array Oper) (tm : Vs) : List Oper → Option (Nat × List Value × Option Tmp)
  | o :: _ => if wantQ ops tm o = some true then match o.op with
    | .call { callee := .value x, args := xs, argTypes := _ } => match evQ tm x with
      | some (Sum.inl (.func (.yield r) f g)) => if f.size = 0 ∧ g.size = 0 then (xs.toList.mapM fun x => plain (evQ tm x)).map fun vs => (r, vs, o.dst) else none
      | _ => none
    | _ => none else none
  | _ => none
theorem yieldC {ops : Array Oper} (lst : List Oper) (dst : Tmp) {r : Nat} {args : List Value} {R : Ending → World → Prop} (I : SI J F ds β c a w) (hY : YieldAt Fence.wide (n - 1) P r args.toArray w R)
    (k : ∀ e w', R e w' → ∃ v, e = .returned v ∧ (SI (RowKit.Below w'.heap.size w') (· < w'.heap.size) ds β (cfO ops lst.tail (c.tm.set dst (some (Sum.inl v))) [] c.nx) (a.put (some dst) v) w' → At P Q (cfO ops lst.tail (c.tm.set dst (some (Sum.inl v))) [] c.nx) (a.put (some dst) v) w'))
    (hc : yQ ops c.tm lst = some (r, args, some dst) := by kernel_rfl) (ho : c.ops = ops := by kernel_rfl) : wpListIn Fence.wide n P ops Q lst a w := by
  cases lst with
  | nil => cases hc
  | cons o post =>
    simp only [yQ] at hc
    split at hc
    · next hw =>
      subst ho
      split at hc
      · next x xs ts hop =>
        split at hc
        · next r' f g hx =>
          split at hc
          · next hfg =>
            obtain rfl := Array.eq_empty_of_size_eq_zero hfg.1
            obtain rfl := Array.eq_empty_of_size_eq_zero hfg.2
            simp only [Option.map_eq_some_iff, Prod.mk.injEq] at hc
            obtain ⟨vs, hm, rfl, rfl, hd⟩ := hc
            refine yieldO hop (evQ_ok I.fr hx) ?_ (wantQ_ok I hw) hY fun e w' he => ?_
            · rw [← mapQ_ok I.fr hm]; apply Array.ext'; simp
            · obtain ⟨v, rfl, h2⟩ := k e w' he
              refine ⟨v, rfl, ?_⟩
              rw [hd]
              have hfr := putQ_fr I.fr (some dst) (some (Sum.inl v))
              refine lastS (h2 ⟨hfr, I.df, RowKit.Below.refl _ _, fun p hp => (by cases hp), fun p hp => (by cases hp), fun p hp => (by cases hp), fun p hp => (by cases hp), ?_⟩)
              exact idsB_put I.ids (some dst) (fun i o h => by cases h)
          · cases hc
        · cases hc
      · cases hc
    · cases hc
end
end Go.Proofs.Ytabghfcjpaileaa
