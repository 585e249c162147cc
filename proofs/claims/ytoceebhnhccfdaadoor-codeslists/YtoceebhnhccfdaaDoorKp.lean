/- A text's words, handed out one by one. -/
import Derived.Test.YtoceebhnhccfdaaDoorKn
import Derived.Test.YtoceebhnhccfdaaDoorKm
namespace Go.Proofs.YtoceebhnhccfdaaDoor
open Go.RowKit Go.Sort Go.Shelf
set_option linter.unusedVariables false
set_option maxRecDepth 100000
/-- How many signs stand ahead of the next gap. -/
def wl : List UInt8 → Nat
  | [] => 0
  | b :: r => if gapB b = true then 0 else wl r + 1
theorem wl_le : ∀ l, wl l ≤ l.length
  | [] => Nat.le_refl _
  | b :: r => by
    unfold wl
    split
    · exact Nat.zero_le _
    · have := wl_le r; simp only [List.length_cons]; omega
/-- A text's words with their places. -/
def wdF : Nat → Nat → List UInt8 → List (Nat × List UInt8)
  | 0, _, _ => []
  | _ + 1, _, [] => []
  | f + 1, p, b :: r => (if 0 < wl (b :: r) then [(p, (b :: r).take (wl (b :: r)))] else []) ++ wdF f (p + wl (b :: r) + 1) ((b :: r).drop (wl (b :: r) + 1))
theorem wdF_fuel : ∀ (f g p : Nat) (l : List UInt8), l.length ≤ f → l.length ≤ g → wdF f p l = wdF g p l
  | 0, g, p, l, h, _ => by
    obtain rfl : l = [] := List.length_eq_zero_iff.1 (by omega)
    cases g <;> rfl
  | f + 1, 0, p, l, _, h => by
    obtain rfl : l = [] := List.length_eq_zero_iff.1 (by omega)
    rfl
  | f + 1, g + 1, p, [], _, _ => rfl
  | f + 1, g + 1, p, b :: r, h1, h2 => by
    simp only [wdF]
    rw [wdF_fuel f g _ _ (by rw [List.length_drop]; simp only [List.length_cons] at h1 ⊢; omega) (by rw [List.length_drop]; simp only [List.length_cons] at h2 ⊢; omega)]
def wd (p : Nat) (l : List UInt8) : List (Nat × List UInt8) := wdF l.length p l
theorem wd_nil (p : Nat) : wd p [] = [] := rfl
theorem wd_ne {l : List UInt8} (h : l ≠ []) (p : Nat) : wd p l = (if 0 < wl l then [(p, l.take (wl l))] else []) ++ wd (p + wl l + 1) (l.drop (wl l + 1)) := by
  cases l with
  | nil => exact absurd rfl h
  | cons b r =>
    unfold wd
    simp only [List.length_cons, wdF]
    rw [wdF_fuel r.length ((b :: r).drop (wl (b :: r) + 1)).length _ _ (by rw [List.length_drop]; simp only [List.length_cons]; omega) (Nat.le_refl _)]
/-- One step ahead to the gap. -/
theorem wl_step {c : List UInt8} {p e : Nat} (hpe : p ≤ e) (he : e - p ≤ wl (c.drop p)) : (e - p < wl (c.drop p) ↔ ∃ b, c[e]? = some b ∧ gapB b = false) ∧ (e - p = wl (c.drop p) → e < c.length → ∃ b, c[e]? = some b ∧ gapB b = true) := by
  have key : ∀ (k : Nat) (l : List UInt8), k ≤ wl l → (k < wl l ↔ ∃ b, l[k]? = some b ∧ gapB b = false) ∧ (k = wl l → k < l.length → ∃ b, l[k]? = some b ∧ gapB b = true) := by
    intro k
    induction k with
    | zero =>
      intro l _
      cases l with
      | nil => simp [wl]
      | cons b r =>
        unfold wl
        cases hg : gapB b <;> simp [hg]
    | succ k ih =>
      intro l hl
      cases l with
      | nil => simp [wl] at hl
      | cons b r =>
        unfold wl at hl ⊢
        cases hg : gapB b with
        | true => rw [hg] at hl; simp at hl
        | false =>
          rw [hg] at hl
          simp only [Bool.false_eq_true, if_false] at hl ⊢
          have := ih r (by omega)
          refine ⟨?_, ?_⟩
          · rw [Nat.add_lt_add_iff_right]; simpa using this.1
          · intro h1 h2
            simpa using this.2 (by omega) (by simpa using h2)
  have h := key (e - p) (c.drop p) he
  rw [List.getElem?_drop, show p + (e - p) = e by omega] at h
  exact ⟨h.1, fun h1 h2 => h.2 h1 (by rw [List.length_drop]; omega)⟩
def loop2 (fn : Func) : Code := ((fn.body.bind loopOf).bind loopOf).getD .skip
abbrev woK : List Nat := [0, 1, 3]
abbrev woW (l b p : Nat) : Vs := frm 38 [(0, Sum.inl (.func (.yield l) #[] #[])), (1, Sum.inl (.pointer (some ⟨b, 0, none⟩))), (3, Sum.inl (Z p))]
abbrev wiK : List Nat := [0, 1, 3, 4]
abbrev wiW (l b p e : Nat) : Vs := frm 38 [(0, Sum.inl (.func (.yield l) #[] #[])), (1, Sum.inl (.pointer (some ⟨b, 0, none⟩))), (3, Sum.inl (Z p)), (4, Sum.inl (Z e))]
theorem SI.bare {J : World → Prop} {F : Nat → Prop} {ds : List Deferred} {β : Nat → Nat} {c : Cf} {a : Act} {w w' : World} (I : SI J F ds β c a w) : SI (RowKit.Below w'.heap.size w') (· < w'.heap.size) ds β (cfQ [] c.tm [] c.nx) a w' := SI.rebase (c' := cfQ [] c.tm [] c.nx) I rfl rfl rfl
theorem thenN {P : Program} {Q : Exit → Act → World → Prop} {n : Nat} {ops : Array Oper} {post : List Oper} {a : Act} {w : World} (h : Q .normal a w) (hp : post = [] := by kernel_rfl) : thenL n P ops Q post .normal a w := by
  subst hp
  exact h
theorem atR {P : Program} {Q : Exit → Act → World → Prop} {c : Cf} {a : Act} {w : World} (h : Q .ret a w) (hd : c.dn = some .ret := by kernel_rfl) : At P Q c a w := ⟨by unfold AtD; rw [hd]; exact h⟩
def kWf (r5 r6 : Array Oper) : List Ki := [Sum.inl (.region 5 r5 false), Sum.inl (Code.cond (.tmp 35) .ret .skip), Sum.inl (.region 6 r6 false), Sum.inr 1]
set_option maxHeartbeats 4000000 in
theorem words_cont {Q : Exit → Act → World → Prop} (n l b p q i : Nat) (c : List UInt8) (hc : c.length < 100000000) (hq : p + q ≤ c.length) {J : Nat → World → Prop} {Jx : World → Prop} (hJ : ∀ i A B, J i A → RowKit.Below A.heap.size A B → J i B) (hJx : ∀ A B, Jx A → RowKit.Below A.heap.size A B → Jx B) {w3 : World} (hT : ∀ w', RowKit.Below w3.heap.size w3 w' → XT b c w')
    (hY : ∀ i W1, i < (wd 0 c).length → J i W1 → YieldAt Fence.wide (n - 1) Tryd.prog l (pcE (wd 0 c) i) W1 fun e W' => (e = .returned (.bool true) ∧ J (i + 1) W') ∨ (e = .returned (.bool false) ∧ Jx W'))
    (hJi : J i w3) (hin : i ≤ (wd 0 c).length) (hpc : (if 0 < q then [(p, (c.drop p).take q)] else []) ++ wd (p + q + 1) (c.drop (p + q + 1)) = (wd 0 c).drop i)
    (hend : ∀ i' β a w u, J i' w → i' ≤ (wd 0 c).length → wd (p + q + 1) (c.drop (p + q + 1)) = (wd 0 c).drop i' → SI (RowKit.Below w.heap.size w) (· < w.heap.size) [] β (cfC (bodyL Tryd.f39) (fillF (scrF 38 woK) u 0 (woW l b (p + q + 1))) [] 0) a w → Q .normal a w)
    (hret : ∀ β a w c', Jx w → SI (RowKit.Below w.heap.size w) (· < w.heap.size) [] β c' a w → Q .ret a w)
    {β6 : Nat → Nat} {u6 : Nat → Value} {a6 : Act} {w6 : World} (I6 : SI (RowKit.Below w3.heap.size w3) (· < w3.heap.size) [] β6 (cfQ (kWf (regO Tryd.f39 5) (regO Tryd.f39 6)) (fillF (scrF 38 wiK) u6 0 (wiW l b p (p + q))) [] 0) a6 w6) : At Tryd.prog Q (cfQ (kWf (regO Tryd.f39 5) (regO Tryd.f39 6)) (fillF (scrF 38 wiK) u6 0 (wiW l b p (p + q))) [] 0) a6 w6 := by
  by_cases hq0 : 0 < q
  · rw [if_pos hq0] at hpc
    obtain ⟨hg1, hg2, hg3⟩ := getD_drop (hpc.symm) (0, [])
    refine regY n 10 ?_
    have hcut : ∀ w, (Instr.sliceAt 9 (str c) (some (Z p)) (some (Z (p + q : Nat))) none).run Tryd.prog w = .ok (str ((c.drop p).take q)) w := fun w => by
      have h := both_run (l := c) (i := p) (j := p + q) (by omega) hq w
      rw [List.drop_take, show p + q - p = q by omega] at h
      exact h
    refine goT (T := XT b c) [bO .gtr 3 (run_gtrZ (x := (p + q : Nat)) (y := p) (b := true) (by simp; omega)), ldA 9 (fun w h => XT.load h), sLH 9 hcut] (nonR w3) hT (I6.cf rfl rfl rfl) fun β7 a7 w7 I7 hb7 => ?_
    refine atN ?_
    have hJ7 := hJ i _ _ hJi I7.hJ
    have hY7 := hY i w7 hg3 hJ7
    unfold pcE at hY7
    rw [hg1] at hY7
    generalize (c.drop p).take q = wdd at *
    refine yieldC (args := [Z p, str wdd]) _ 33 I7 hY7 fun ee w8 hR => ?_
    rcases hR with ⟨rfl, hj8⟩ | ⟨rfl, hj8⟩
    · refine ⟨.bool true, rfl, fun I8 => ?_⟩
      refine goQ [uO .not (p := .bool true) (v := .bool false) run_not] (nonR w8) I8 fun β9 a9 w9 I9 hb9 => ?_
      refine atN (atK I9 fun I9 => ?_)
      refine goQ [bO .add 3 (run_addZ (x := (p + q : Nat)) (y := 1) (z := (p + q + 1 : Nat)) (by rw [wz (by omega) (by omega)]; omega))] (nonR w8) I9 fun β9 a9 w9 I9 hb9 => ?_
      obtain ⟨u', Iu⟩ := I9.scr (bodyL Tryd.f39) (scrF 38 woK) (woW l b (p + q + 1)) [] 0
      exact atN (hend (i + 1) β9 a9 w9 u' (hJ _ _ _ hj8 I9.hJ) hg3 hg2.symm (Iu.rebase rfl rfl rfl))
    · refine ⟨.bool false, rfl, fun I8 => ?_⟩
      refine goQ [uO .not (p := .bool false) (v := .bool true) run_not] (nonR w8) I8 fun β9 a9 w9 I9 hb9 => ?_
      refine atN (atK I9 fun I9 => ?_)
      refine goQ [] (nonR w8) I9 fun β9 a9 w9 I9 hb9 => ?_
      exact atR (hret β9 a9 w9 _ (hJx _ _ hj8 I9.hJ) I9.bare)
  · obtain rfl : q = 0 := by omega
    rw [if_neg hq0, List.nil_append] at hpc
    refine regY n 13 ?_
    refine goQ [bO .gtr 3 (run_gtrZ (x := (p + 0 : Nat)) (y := p) (b := false) (by simp))] (nonR w3) (I6.cf rfl rfl rfl) fun β7 a7 w7 I7 hb7 => ?_
    refine atN (thenN ?_)
    refine atK I7 fun I7 => ?_
    refine goQ [bO .add 3 (run_addZ (x := (p + 0 : Nat)) (y := 1) (z := (p + 0 + 1 : Nat)) (by rw [wz (by omega) (by omega)]; omega))] (nonR w3) I7 fun β9 a9 w9 I9 hb9 => ?_
    obtain ⟨u', Iu⟩ := I9.scr (bodyL Tryd.f39) (scrF 38 woK) (woW l b (p + 0 + 1)) [] 0
    exact atN (hend i β9 a9 w9 u' (hJ _ _ _ hJi I9.hJ) hin hpc (Iu.rebase rfl rfl rfl))
set_option maxHeartbeats 4000000 in
theorem words_seq (n b : Nat) (c : List UInt8) (hc : c.length < 100000000) : SeqG n Tryd.prog 39 #[.pointer (some ⟨b, 0, none⟩)] (pcE (wd 0 c)) (wd 0 c).length (XT b c) := by
  intro l J Jx W hJ hJx hX hY h0
  refine callsIn_wide.2 ?_
  show Calls Tryd.prog 39 #[.func (.yield l) #[] #[], .pointer (some ⟨b, 0, none⟩)] W _
  refine inQ (J := RowKit.Below W.heap.size W) (F := (· < W.heap.size)) Tryd.func39 (RowKit.Below.refl _ _) fun a I => ?_
  refine goQ [] (nonR W) I fun β a w1 I hb => ?_
  have hJ1 : J 0 w1 := hJ 0 _ _ h0 I.hJ
  let St : Nat → Act → World → Prop := fun k a w' => ∃ (i p : Nat) (β : Nat → Nat) (u : Nat → Value), k = c.length + 1 - p ∧ p ≤ c.length + 1 ∧ i ≤ (wd 0 c).length ∧ wd p (c.drop p) = (wd 0 c).drop i ∧ J i w' ∧ SI (RowKit.Below w'.heap.size w') (· < w'.heap.size) [] β (cfC (bodyL Tryd.f39) (fillF (scrF 38 woK) u 0 (woW l b p)) [] 0) a w'
  refine lpM (bodyL Tryd.f39) St (c.length + 1) ?_ ?_
  · obtain ⟨u, Iu⟩ := I.scr (bodyL Tryd.f39) (scrF 38 woK) (woW l b 0) [] 0
    exact ⟨0, 0, β, u, by omega, Nat.zero_le _, Nat.zero_le _, rfl, hJ1, Iu.rebase rfl rfl rfl⟩
  rintro k a3 w3 ⟨i, p, β3, u, rfl, hp, hin, hpc, hJi, I3⟩
  refine wp_cfC (tm := fillF (scrF 38 woK) u 0 (woW l b p)) (rows := []) (nx := 0) ?_
  have hx3 := hX i w3 hJi
  have hT : ∀ w', RowKit.Below w3.heap.size w3 w' → XT b c w' := fun w' h => XT.below hx3 h
  rcases Nat.lt_or_ge p c.length with hpl | hpl
  · have hne : c.drop p ≠ [] := fun h => by have := congrArg List.length h; rw [List.length_drop] at this; simp at this; omega
    have hst := wd_ne hne p
    have hwl := wl_le (c.drop p)
    rw [List.length_drop] at hwl
    obtain ⟨q, hq⟩ : ∃ q, wl (c.drop p) = q := ⟨_, rfl⟩
    rw [hq] at hst hwl
    rw [List.drop_drop] at hst
    refine goT (T := XT b c) [ldA 9 (fun w h => XT.load h), lnO c, bO .lss 3 (run_lssZ (x := p) (y := c.length) (b := true) (by simp; omega))] (nonR w3) hT I3 fun β4 a4 w4 I4 hb4 => ?_
    let S2 : Nat → Act → World → Prop := fun k a w' => ∃ (e : Nat) (β : Nat → Nat) (u : Nat → Value), k = p + q - e ∧ p ≤ e ∧ e ≤ p + q ∧ SI (RowKit.Below w3.heap.size w3) (· < w3.heap.size) [] β (cfC (loop2 Tryd.f39) (fillF (scrF 38 wiK) u 0 (wiW l b p e)) [] 0) a w'
    refine lpM (loop2 Tryd.f39) S2 q ?_ ?_
    · obtain ⟨u, Iu⟩ := I4.scr (loop2 Tryd.f39) (scrF 38 wiK) (wiW l b p p) [] 0
      exact ⟨p, β4, u, by omega, Nat.le_refl _, by omega, Iu⟩
    rintro k a5 w5 ⟨e, β5, u5, rfl, hpe, heq, I5⟩
    refine wp_cfC (tm := fillF (scrF 38 wiK) u5 0 (wiW l b p e)) (rows := []) (nx := 0) ?_
    have hws := wl_step hpe (show e - p ≤ wl (c.drop p) by rw [hq]; omega)
    rw [hq] at hws
    by_cases hlt : e - p < q
    · obtain ⟨x, hx, hg⟩ := hws.1.1 hlt
      have hgap := isGap_any x
      rw [hg] at hgap
      refine goT (T := XT b c) [ldA 9 (fun w h => XT.load h), lnO c, bO .lss 3 (run_lssZ (x := e) (y := c.length) (b := true) (by simp; omega)), ldA 9 (fun w h => XT.load h), iO 9 (p := str c) (i := Z e) (v := b8 x.toNat) (idx_run hx), kC Tryd.func40 hgap, uO .not (p := .bool false) (v := .bool true) run_not, bO .add 3 (run_addZ (x := e) (y := 1) (z := (e + 1 : Nat)) (by rw [wz (by omega) (by omega)]; omega))] (nonR w3) hT I5 fun β6 a6 w6 I6 hb6 => ?_
      obtain ⟨u', Iu⟩ := I6.scr (loop2 Tryd.f39) (scrF 38 wiK) (wiW l b p (e + 1)) [] 0
      exact endL ⟨p + q - (e + 1), by omega, e + 1, β6, u', rfl, by omega, by omega, Iu⟩
    · obtain rfl : e = p + q := by omega
      rcases Nat.lt_or_ge (p + q) c.length with hel | hel
      · obtain ⟨x, hx, hg⟩ := hws.2 (by omega) hel
        have hgap := isGap_any x
        rw [hg] at hgap
        refine goT (T := XT b c) [ldA 9 (fun w h => XT.load h), lnO c, bO .lss 3 (run_lssZ (x := (p + q : Nat)) (y := c.length) (b := true) (by simp; omega)), ldA 9 (fun w h => XT.load h), iO 9 (p := str c) (i := Z (p + q : Nat)) (v := b8 x.toNat) (idx_run hx), kC Tryd.func40 hgap, uO .not (p := .bool true) (v := .bool false) run_not] (nonR w3) hT I5 fun β6 a6 w6 I6 hb6 => ?_
        refine endE 2 ?_
        refine goQ [] (nonR w3) (I6.exit _) fun β7 a7 w7 I7 hb7 => ?_
        obtain ⟨u7, Iu⟩ := I7.scr .skip (scrF 38 wiK) (wiW l b p (p + q)) [] 0
        refine at_ks (ks := kWf (regO Tryd.f39 5) (regO Tryd.f39 6)) (words_cont n l b p q i c hc (by omega) hJ hJx hT hY hJi hin (hst.symm.trans hpc) ?_ ?_ (Iu.cf rfl rfl rfl))
        · intro i' β a w u hj hi' hw I
          exact ⟨c.length + 1 - (p + q + 1), by omega, i', p + q + 1, β, u, rfl, by omega, hi', hw, hj, I⟩
        · intro β a w c' hj I
          exact retQ_ok ⟨I.df, .tuple #[], resX_ok (st := (c'.tm, c'.rows, c'.nx)) I.inv (by kernel_rfl), ⟨_, rfl⟩, .inr hj⟩
      · refine goT (T := XT b c) [ldA 9 (fun w h => XT.load h), lnO c, bO .lss 3 (run_lssZ (x := (p + q : Nat)) (y := c.length) (b := false) (by simp; omega))] (nonR w3) hT I5 fun β6 a6 w6 I6 hb6 => ?_
        refine endE 2 ?_
        refine goQ [] (nonR w3) (I6.exit _) fun β7 a7 w7 I7 hb7 => ?_
        obtain ⟨u7, Iu⟩ := I7.scr .skip (scrF 38 wiK) (wiW l b p (p + q)) [] 0
        refine at_ks (ks := kWf (regO Tryd.f39 5) (regO Tryd.f39 6)) (words_cont n l b p q i c hc (by omega) hJ hJx hT hY hJi hin (hst.symm.trans hpc) ?_ ?_ (Iu.cf rfl rfl rfl))
        · intro i' β a w u hj hi' hw I
          exact ⟨c.length + 1 - (p + q + 1), by omega, i', p + q + 1, β, u, rfl, by omega, hi', hw, hj, I⟩
        · intro β a w c' hj I
          exact retQ_ok ⟨I.df, .tuple #[], resX_ok (st := (c'.tm, c'.rows, c'.nx)) I.inv (by kernel_rfl), ⟨_, rfl⟩, .inr hj⟩
  · refine goT (T := XT b c) [ldA 9 (fun w h => XT.load h), lnO c, bO .lss 3 (run_lssZ (x := p) (y := c.length) (b := false) (by simp; omega))] (nonR w3) hT I3 fun β4 a4 w4 I4 hb4 => ?_
    refine endE 0 ?_
    refine goQ [] (nonR w3) (I4.exit _) fun β5 a5 w5 I5 hb5 => ?_
    have hi : i ≥ (wd 0 c).length := by
      rw [List.drop_eq_nil_of_le hpl, wd_nil] at hpc
      exact List.drop_eq_nil_iff.1 hpc.symm
    obtain rfl : i = (wd 0 c).length := by omega
    exact outQ (v := .tuple #[]) I5 ⟨⟨_, rfl⟩, .inl (hJ _ _ _ hJi I5.hJ)⟩ (hd := .inr (by kernel_rfl))
end Go.Proofs.YtoceebhnhccfdaaDoor
