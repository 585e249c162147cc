/- A code's operations, handed out one by one. -/
import Derived.Test.YtoceebhnhccfdaaDoorKg
import Derived.Test.YtoceebhnhccfdaaDoorKd
namespace Go.Proofs.YtoceebhnhccfdaaDoor
open Go.RowKit Go.Sort Go.Shelf
set_option linter.unusedVariables false
set_option maxRecDepth 100000
/-- A code's operations, each with its place and those of its own bytes that are there. -/
def pcF : Nat → Nat → List UInt8 → List (Nat × List UInt8)
  | 0, _, _ => []
  | _ + 1, _, [] => []
  | f + 1, p, b :: r => (p, b :: r.take (min (ownN b.toNat) r.length)) :: pcF f (p + 1 + min (ownN b.toNat) r.length) (r.drop (min (ownN b.toNat) r.length))
theorem pcF_fuel : ∀ (f g p : Nat) (l : List UInt8), l.length ≤ f → l.length ≤ g → pcF f p l = pcF g p l
  | 0, g, p, l, h, _ => by
    obtain rfl : l = [] := List.length_eq_zero_iff.1 (by omega)
    cases g <;> rfl
  | f + 1, 0, p, l, _, h => by
    obtain rfl : l = [] := List.length_eq_zero_iff.1 (by omega)
    rfl
  | f + 1, g + 1, p, [], _, _ => rfl
  | f + 1, g + 1, p, b :: r, h1, h2 => by
    simp only [pcF]
    rw [pcF_fuel f g _ _ (by rw [List.length_drop]; simp only [List.length_cons] at h1; omega) (by rw [List.length_drop]; simp only [List.length_cons] at h2; omega)]
def pc (p : Nat) (l : List UInt8) : List (Nat × List UInt8) := pcF l.length p l
theorem pc_nil (p : Nat) : pc p [] = [] := rfl
theorem pc_cons (p : Nat) (b : UInt8) (r : List UInt8) : pc p (b :: r) = (p, b :: r.take (min (ownN b.toNat) r.length)) :: pc (p + 1 + min (ownN b.toNat) r.length) (r.drop (min (ownN b.toNat) r.length)) := by
  unfold pc
  simp only [List.length_cons, pcF]
  rw [pcF_fuel r.length (r.drop (min (ownN b.toNat) r.length)).length _ _ (by rw [List.length_drop]; omega) (Nat.le_refl _)]
/-- One operation at a place. -/
theorem pc_step {c : List UInt8} {p : Nat} (hp : p < c.length) : ∃ b, c[p]? = some b ∧ ∃ e, e = min (p + 1 + ownN b.toNat) c.length ∧ p < e ∧ e ≤ c.length ∧ pc p (c.drop p) = (p, (c.take e).drop p) :: pc e (c.drop e) := by
  obtain ⟨b, hb⟩ : ∃ b, c[p]? = some b := ⟨_, List.getElem?_eq_getElem hp⟩
  have hd : c.drop p = b :: c.drop (p + 1) := by
    rw [List.drop_eq_getElem_cons hp]
    congr 1
    exact (List.getElem?_eq_some_iff.1 hb).2
  have hlen : (c.drop (p + 1)).length = c.length - (p + 1) := by rw [List.length_drop]
  refine ⟨b, hb, min (p + 1 + ownN b.toNat) c.length, rfl, by omega, by omega, ?_⟩
  have hk : p + 1 + min (ownN b.toNat) (c.drop (p + 1)).length = min (p + 1 + ownN b.toNat) c.length := by rw [hlen]; omega
  have h1 : (c.take (min (p + 1 + ownN b.toNat) c.length)).drop p = b :: (c.drop (p + 1)).take (min (ownN b.toNat) (c.drop (p + 1)).length) := by
    rw [← hk, List.drop_take, hd, show p + 1 + min (ownN b.toNat) (c.drop (p + 1)).length - p = min (ownN b.toNat) (c.drop (p + 1)).length + 1 by omega, List.take_succ_cons]
  have h2 : (c.drop (p + 1)).drop (min (ownN b.toNat) (c.drop (p + 1)).length) = c.drop (min (p + 1 + ownN b.toNat) c.length) := by
    rw [List.drop_drop, hk]
  rw [h1, hd, pc_cons, hk, h2]
/-- What is handed out. -/
def pcE (l : List (Nat × List UInt8)) (i : Nat) : Array Value := #[Z ((l.getD i (0, [])).1 : Nat), str (l.getD i (0, [])).2]
theorem getD_drop {α : Type} {l : List α} {i : Nat} {x : α} {r : List α} (h : l.drop i = x :: r) (d : α) : l.getD i d = x ∧ l.drop (i + 1) = r ∧ i < l.length := by
  have hi : i < l.length := by
    rcases Nat.lt_or_ge i l.length with h1 | h1
    · exact h1
    · rw [List.drop_eq_nil_of_le h1] at h; cases h
  rw [List.drop_eq_getElem_cons hi] at h
  injection h with h1 h2
  exact ⟨by rw [List.getD_eq_getElem?_getD, List.getElem?_eq_getElem hi]; exact h1, h2, hi⟩
theorem SI.rebase {J : World → Prop} {F : Nat → Prop} {ds : List Deferred} {β : Nat → Nat} {c c' : Cf} {a : Act} {w : World} (I : SI J F ds β c a w) (h1 : c'.tm = c.tm) (h2 : c'.rows = []) (h3 : c'.nx = c.nx) {w' : World} : SI (RowKit.Below w'.heap.size w') (· < w'.heap.size) ds β c' a w' := by
  refine ⟨by rw [h1]; exact I.fr, I.df, RowKit.Below.refl _ _, ?_, ?_, ?_, ?_, by rw [h1, h3]; exact I.ids⟩ <;> rw [h2] <;> intro p hp <;> cases hp
section
variable {P : Program} {J : World → Prop} {F : Nat → Prop} {ds : List Deferred} {β : Nat → Nat} {c : Cf} {a : Act} {w : World} {Q : Exit → Act → World → Prop} {n : Nat}
def rgQ (c : Cf) : Option (Array Oper × List Ki) := match c.dn, c.rest, c.ks with
  | none, [], Sum.inl (.region _ ops false) :: ks => some (ops, ks)
  | _, _, _ => none
abbrev rgO (c : Cf) : Array Oper := ((rgQ c).map (·.1)).getD #[]
abbrev rgK (c : Cf) : List Ki := ((rgQ c).map (·.2)).getD []
/-- Into a region that calls a value: its first operations. -/
theorem regY (n k : Nat) (h : At P (thenL n P (rgO c) (QK P Q (rgK c)) ((rgO c).toList.drop k)) (cfO (rgO c) ((rgO c).toList.take k) c.tm c.rows c.nx) a w) (hc : (rgQ c).isSome = true := by kernel_rfl) : At P Q c a w := by
  cases hq : rgQ c with
  | none => rw [hq] at hc; cases hc
  | some r =>
    unfold rgO rgK at h
    simp only [hq, Option.map_some, Option.getD_some] at h
    unfold rgQ at hq
    split at hq
    · next id ops ks hd hr hk =>
      cases hq
      refine ⟨?_⟩
      unfold AtD
      rw [hd, hr, hk]
      exact regS (n := n) k h
    · cases hq
abbrev cfQ (ks : List Ki) (tm : Vs) (rows : Rows) (nx : Nat) : Cf := { ops := #[], rest := [], ks := ks, tm := tm, rows := rows, nx := nx, dn := none }
theorem atK {ks : List Ki} (I : SI J F ds β c a w) (h : SI J F ds β (cfQ ks c.tm c.rows c.nx) a w → At P Q (cfQ ks c.tm c.rows c.nx) a w) : QK P Q ks .normal a w := (h (I.cf rfl rfl rfl)).out
/-- The call of a value that is next. -/
def yQ (ops : Array Oper) (tm : Vs) : List Oper → Option (Nat × List Value × Option Tmp)
  | o :: _ => if wantQ ops tm o = some true then match o.op with
    | .call { callee := .value x, args := xs, argTypes := _ } => match evQ tm x with
      | some (Sum.inl (.func (.yield r) f g)) => if f.size = 0 ∧ g.size = 0 then (xs.toList.mapM fun x => plain (evQ tm x)).map fun vs => (r, vs, o.dst) else none
      | _ => none
    | _ => none else none
  | _ => none
theorem yieldC {ops : Array Oper} (lst : List Oper) (dst : Tmp) {r : Nat} {args : List Value} {R : Ending → World → Prop} (I : SI J F ds β c a w) (hY : YieldAt Fence.wide (n - 1) P r args.toArray w R)
    (k : ∀ e w', R e w' → ∃ v, e = .returned v ∧ (SI (RowKit.Below w'.heap.size w') (· < w'.heap.size) ds β (cfO ops lst.tail (c.tm.set dst (some (Sum.inl v))) [] c.nx) (a.put (some dst) v) w' → At P Q (cfO ops lst.tail (c.tm.set dst (some (Sum.inl v))) [] c.nx) (a.put (some dst) v) w'))
    (hc : yQ ops c.tm lst = some (r, args, some dst) := by kernel_rfl) (ho : c.ops = ops := by kernel_rfl) : wpListIn Fence.wide n P ops Q lst a w := by
  cases lst with
  | nil => cases hc
  | cons o post =>
    simp only [yQ] at hc
    split at hc
    · next hw =>
      subst ho
      split at hc
      · next x xs ts hop =>
        split at hc
        · next r' f g hx =>
          split at hc
          · next hfg =>
            obtain rfl := Array.eq_empty_of_size_eq_zero hfg.1
            obtain rfl := Array.eq_empty_of_size_eq_zero hfg.2
            simp only [Option.map_eq_some_iff, Prod.mk.injEq] at hc
            obtain ⟨vs, hm, rfl, rfl, hd⟩ := hc
            refine yieldO hop (evQ_ok I.fr hx) ?_ (wantQ_ok I hw) hY fun e w' he => ?_
            · rw [← mapQ_ok I.fr hm]; apply Array.ext'; simp
            · obtain ⟨v, rfl, h2⟩ := k e w' he
              refine ⟨v, rfl, ?_⟩
              rw [hd]
              have hfr := putQ_fr I.fr (some dst) (some (Sum.inl v))
              refine lastS (h2 ⟨hfr, I.df, RowKit.Below.refl _ _, fun p hp => (by cases hp), fun p hp => (by cases hp), fun p hp => (by cases hp), fun p hp => (by cases hp), ?_⟩)
              exact idsB_put I.ids (some dst) (fun i o h => by cases h)
          · cases hc
        · cases hc
      · cases hc
    · cases hc
end
/-- The text that an iterator holds. -/
abbrev XT (b : Nat) (c : List UInt8) (w : World) : Prop := HasRow w b #[str c]
theorem XT.load {b : Nat} {c : List UInt8} {w : World} (h : XT b c w) : (loadVar 9 ⟨b, 0, none⟩).run Tryd.prog w = .ok (str c) w := load1 (cells_row h 0 1 (by simp)) 0 rfl 9 Tryd.underlying9 rfl
theorem XT.below {b : Nat} {c : List UInt8} {w w' : World} (h : XT b c w) (hb : RowKit.Below w.heap.size w w') : XT b c w' := HasRow.below h hb
abbrev piK : List Nat := [0, 1, 3]
abbrev piW (l b p : Nat) : Vs := frm 28 [(0, Sum.inl (.func (.yield l) #[] #[])), (1, Sum.inl (.pointer (some ⟨b, 0, none⟩))), (3, Sum.inl (Z p))]
theorem u8w (b : UInt8) : (b8 b.toNat : Value) = .int .u8 (b.toNat : Nat) := rfl
set_option maxHeartbeats 4000000 in
theorem pieces_seq (n b : Nat) (c : List UInt8) (hc : c.length < 100000000) : SeqG n Tryd.prog 45 #[.pointer (some ⟨b, 0, none⟩)] (pcE (pc 0 c)) (pc 0 c).length (XT b c) := by
  intro l J Jx W hJ hJx hX hY h0
  refine callsIn_wide.2 ?_
  show Calls Tryd.prog 45 #[.func (.yield l) #[] #[], .pointer (some ⟨b, 0, none⟩)] W _
  refine inQ (J := RowKit.Below W.heap.size W) (F := (· < W.heap.size)) Tryd.func45 (RowKit.Below.refl _ _) fun a I => ?_
  refine goQ [] (nonR W) I fun β a w1 I hb => ?_
  have hJ1 : J 0 w1 := hJ 0 _ _ h0 I.hJ
  let St : Nat → Act → World → Prop := fun k a w' => ∃ (i p : Nat) (β : Nat → Nat) (u : Nat → Value), k = c.length - p ∧ p ≤ c.length ∧ i ≤ (pc 0 c).length ∧ pc p (c.drop p) = (pc 0 c).drop i ∧ J i w' ∧ SI (RowKit.Below w'.heap.size w') (· < w'.heap.size) [] β (cfC (bodyL Tryd.f45) (fillF (scrF 28 piK) u 0 (piW l b p)) [] 0) a w'
  refine lpM (bodyL Tryd.f45) St c.length ?_ ?_
  · obtain ⟨u, Iu⟩ := I.scr (bodyL Tryd.f45) (scrF 28 piK) (piW l b 0) [] 0
    exact ⟨0, 0, β, u, by omega, Nat.zero_le _, Nat.zero_le _, rfl, hJ1, Iu.rebase rfl rfl rfl⟩
  rintro k a3 w3 ⟨i, p, β3, u, rfl, hp, hin, hpc, hJi, I3⟩
  refine wp_cfC (tm := fillF (scrF 28 piK) u 0 (piW l b p)) (rows := []) (nx := 0) ?_
  have hx3 := hX i w3 hJi
  have hT : ∀ w', RowKit.Below w3.heap.size w3 w' → XT b c w' := fun w' h => XT.below hx3 h
  rcases Nat.lt_or_ge p c.length with hpl | hpl
  · obtain ⟨x, hx, e, he, hpe, hel, hst⟩ := pc_step hpl
    obtain ⟨hg1, hg2, hg3⟩ := getD_drop (hpc.symm.trans hst) (0, [])
    refine goT (T := XT b c) [ldA 9 (fun w h => XT.load h), lnO c, bO .lss 3 (run_lssZ (x := p) (y := c.length) (b := true) (by simp; omega))] (nonR w3) hT I3 fun β4 a4 w4 I4 hb4 => ?_
    have hown := owned_any x.toNat (u8_lt x)
    have hov := ownN_lt x.toNat
    generalize ownN x.toNat = ow at *
    refine dwT (T := XT b c) 11 [bO .add 3 (run_addZ (x := p) (y := 1) (z := (p + 1 : Nat)) (by rw [wz (by omega) (by omega)]; omega)), ldA 9 (fun w h => XT.load h), iO 9 (p := str c) (i := Z p) (v := b8 x.toNat) (idx_run hx), kC Tryd.func42 hown, bO .add 3 (run_addZ (x := (p + 1 : Nat)) (y := ow) (z := (p + 1 + ow : Nat)) (by rw [wz (by omega) (by omega)]; omega)), ldA 9 (fun w h => XT.load h), lnO c, mnO (x := (p + 1 + ow : Nat)) (y := c.length) (z := e) (by rw [he]; split <;> omega)] (nonR w3) hT (PanOk.then PanOk.post.qk) I4 fun a5 w5 I5 => ?_
    refine goQ [] (nonR w3) I5 fun β6 a6 w6 I6 hb6 => ?_
    refine regY n 6 ?_
    have hcut : ∀ w, (Instr.sliceAt 9 (str c) (some (Z p)) (some (Z e)) none).run Tryd.prog w = .ok (str ((c.take e).drop p)) w := fun w => both_run (by omega) hel w
    refine goT (T := XT b c) [ldA 9 (fun w h => XT.load h), sLH 9 hcut] (nonR w3) hT (I6.cf rfl rfl rfl) fun β7 a7 w7 I7 hb7 => ?_
    refine atN ?_
    have hJ7 := hJ i _ _ hJi I7.hJ
    have hY7 := hY i w7 hg3 hJ7
    unfold pcE at hY7
    rw [hg1] at hY7
    refine yieldC (args := [Z p, str ((c.take e).drop p)]) _ 25 I7 hY7 fun ee w8 hR => ?_
    rcases hR with ⟨rfl, hj8⟩ | ⟨rfl, hj8⟩
    · refine ⟨.bool true, rfl, fun I8 => ?_⟩
      refine goQ [uO .not (p := .bool true) (v := .bool false) run_not] (nonR w8) I8 fun β9 a9 w9 I9 hb9 => ?_
      refine atN (atK I9 fun I9 => ?_)
      refine goQ [] (nonR w8) I9 fun β9 a9 w9 I9 hb9 => ?_
      obtain ⟨u', Iu⟩ := I9.scr (bodyL Tryd.f45) (scrF 28 piK) (piW l b e) [] 0
      exact endL ⟨c.length - e, by omega, i + 1, e, β9, u', rfl, hel, hg3, hg2.symm, hJ _ _ _ hj8 I9.hJ, Iu.rebase rfl rfl rfl⟩
    · refine ⟨.bool false, rfl, fun I8 => ?_⟩
      refine goQ [uO .not (p := .bool false) (v := .bool true) run_not] (nonR w8) I8 fun β9 a9 w9 I9 hb9 => ?_
      refine atN (atK I9 fun I9 => ?_)
      refine goQ [] (nonR w8) I9 fun β9 a9 w9 I9 hb9 => ?_
      exact endR (retV (v := .tuple #[]) I9 ⟨⟨_, rfl⟩, .inr (hJx _ _ hj8 I9.hJ)⟩)
  · obtain rfl : p = c.length := by omega
    refine goT (T := XT b c) [ldA 9 (fun w h => XT.load h), lnO c, bO .lss 3 (run_lssZ (x := c.length) (y := c.length) (b := false) (by simp))] (nonR w3) hT I3 fun β4 a4 w4 I4 hb4 => ?_
    refine endE 0 ?_
    refine goQ [] (nonR w3) (I4.exit _) fun β5 a5 w5 I5 hb5 => ?_
    have hi : i ≥ (pc 0 c).length := by
      rw [List.drop_length, pc_nil] at hpc
      exact List.drop_eq_nil_iff.1 hpc.symm
    obtain rfl : i = (pc 0 c).length := by omega
    exact outQ (v := .tuple #[]) I5 ⟨⟨_, rfl⟩, .inl (hJ _ _ _ hJi I5.hJ)⟩ (hd := .inr (by kernel_rfl))
end Go.Proofs.YtoceebhnhccfdaaDoor
