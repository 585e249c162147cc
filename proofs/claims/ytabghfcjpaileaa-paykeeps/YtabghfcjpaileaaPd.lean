/- What money covers: an iterator hands it out, with cells of its own. -/
import Derived.Test.YtabghfcjpaileaaPc
import Derived.Test.YtabghfcjpaileaaCq
namespace Go.Proofs.Ytabghfcjpaileaa
open Go.RowKit Go.Sort
set_option linter.unusedVariables false
set_option maxRecDepth 100000
def smA (l : List Al) : Nat := (l.map (·.2.1)).sum
/-- What is left ahead of a place; what is covered there. -/
def lfN (h : Nat) (l : List Al) (i : Nat) : Nat := h - smA (l.take i)
def shN (h : Nat) (l : List Al) (i : Nat) (x : Al) : Nat := min (lfN h l i) x.2.1
def cvL (h : Nat) (l : List Al) : List Nat := l.mapIdx fun i x => shN h l i x
theorem smA_take {l : List Al} {i : Nat} {x : Al} (h : l[i]? = some x) : smA (l.take (i + 1)) = smA (l.take i) + x.2.1 := sum_take _ l h
theorem lfN_zero (h : Nat) (l : List Al) : lfN h l 0 = h := by simp [lfN, smA]
theorem lfN_le (h : Nat) (l : List Al) (i : Nat) : lfN h l i ≤ h := Nat.sub_le _ _
theorem lfN_step (h : Nat) {l : List Al} {i : Nat} {x : Al} (hx : l[i]? = some x) : lfN h l (i + 1) = lfN h l i - shN h l i x := by
  unfold shN lfN
  rw [smA_take hx]
  omega
theorem cvL_get (h : Nat) {l : List Al} {i : Nat} {x : Al} (hx : l[i]? = some x) : (cvL h l)[i]? = some (shN h l i x) := by
  unfold cvL
  rw [List.getElem?_mapIdx, hx]
  rfl
theorem cvL_len (h : Nat) (l : List Al) : (cvL h l).length = l.length := by simp [cvL]
theorem cvL_lt {h : Nat} (hh : h < W) (l : List Al) : ∀ x ∈ cvL h l, x < W := fun x hx => by
  obtain ⟨i, hi⟩ := List.mem_iff_getElem?.1 hx
  unfold cvL at hi
  rw [List.getElem?_mapIdx] at hi
  obtain ⟨y, _, rfl⟩ := Option.map_eq_some_iff.1 hi
  have := lfN_le h l i
  unfold shN
  omega
theorem subOk {f : Nat} {n m : Nat} (hA : ∀ n m : Nat, n < W → m < W → ∀ w, Calls Try.prog f #[U n, U m] w fun e w' => e = .returned (.tuple #[U (subW n m), .bool (unW n m)]) ∧ Below w.heap.size w w') (h1 : n < W) (h : m ≤ n) (w : World) : Calls Try.prog f #[U n, U m] w fun e w' => e = .returned (.tuple #[U (n - m), .bool false]) ∧ Below w.heap.size w w' := by
  have := hA n m h1 (by omega) w
  rwa [show subW n m = n - m from by unfold subW; rw [show n + W - m = (n - m) + W by omega, Nat.add_mod_right]; exact Nat.mod_eq_of_lt (by omega), show unW n m = false from decide_eq_false (by omega)] at this
theorem cmp_lt {n m : Nat} : decide (cmpN n m < 0) = decide (n < m) := by
  unfold cmpN
  split
  · next h => rw [decide_eq_true h]; rfl
  · next h =>
    rw [decide_eq_false h]
    split <;> rfl
theorem lesser_any (n m : Nat) (hn : n < W) (hm : m < W) (w : World) : Calls Try.prog 30 #[U n, U m] w fun e w' => e = .returned (U (min n m)) ∧ Below w.heap.size w w' := by
  have hc := cmp_any n m hn hm
  have hl := cmp_lt (n := n) (m := m)
  generalize cmpN n m = z at *
  refine inQ (J := Below w.heap.size w) (F := (· < w.heap.size)) Try.func30 (Below.refl _ _) fun a I => ?_
  by_cases h : n < m
  · rw [decide_eq_true h] at hl
    rw [Nat.min_eq_left (Nat.le_of_lt h)]
    refine goQ [kC Try.func34 hc, bO .lss 3 (run_lssZ (x := z) (y := 0) (b := true) hl)] (nonR w) I fun β a w1 I hb => ?_
    exact outQ (v := U n) I ⟨rfl, I.hJ⟩
  · rw [decide_eq_false h] at hl
    rw [Nat.min_eq_right (Nat.le_of_not_lt h)]
    refine goQ [kC Try.func34 hc, bO .lss 3 (run_lssZ (x := z) (y := 0) (b := false) hl)] (nonR w) I fun β a w1 I hb => ?_
    exact outQ (v := U m) I ⟨rfl, I.hJ⟩
theorem least_any (n m : Nat) (hn : n < W) (hm : m < W) (w : World) : Calls Try.prog 24 #[U n, U m] w fun e w' => e = .returned (U (min n m)) ∧ Below w.heap.size w w' := by
  have hc := rcmp_any n m hn hm
  have hl := cmp_lt (n := n) (m := m)
  generalize cmpN n m = z at *
  refine inQ (J := Below w.heap.size w) (F := (· < w.heap.size)) Try.func24 (Below.refl _ _) fun a I => ?_
  by_cases h : n < m
  · rw [decide_eq_true h] at hl
    rw [Nat.min_eq_left (Nat.le_of_lt h)]
    refine goQ [kC Try.func16 hc, bO .lss 3 (run_lssZ (x := z) (y := 0) (b := true) hl)] (nonR w) I fun β a w1 I hb => ?_
    exact outQ (v := U n) I ⟨rfl, I.hJ⟩
  · rw [decide_eq_false h] at hl
    rw [Nat.min_eq_right (Nat.le_of_not_lt h)]
    refine goQ [kC Try.func16 hc, bO .lss 3 (run_lssZ (x := z) (y := 0) (b := false) hl)] (nonR w) I fun β a w1 I hb => ?_
    exact outQ (v := U m) I ⟨rfl, I.hJ⟩
section
variable {P : Program} {J : World → Prop} {F : Nat → Prop} {ds : List Deferred} {β : Nat → Nat} {c : Cf} {a : Act} {w : World} {Q : Exit → Act → World → Prop} {n : Nat}
/-- The call of a round; the walk's own rows stay. -/
theorem yieldM {ops : Array Oper} (lst : List Oper) (dst : Tmp) {r : Nat} {args : List Value} {R : Ending → World → Prop} (I : SI J F ds β c a w) (hY : YieldAt Fence.wide (n - 1) P r args.toArray w R)
    (k : ∀ e w', R e w' → ∃ v, e = .returned v ∧ At P Q (cfO ops lst.tail (c.tm.set dst (some (Sum.inl v))) c.rows c.nx) (a.put (some dst) v) w')
    (hc : yQ ops c.tm lst = some (r, args, some dst) := by kernel_rfl) (ho : c.ops = ops := by kernel_rfl) : wpListIn Fence.wide n P ops Q lst a w := by
  cases lst with
  | nil => cases hc
  | cons o post =>
    simp only [yQ] at hc
    split at hc
    · next hw =>
      subst ho
      split at hc
      · next x xs ts hop =>
        split at hc
        · next r' f g hx =>
          split at hc
          · next hfg =>
            obtain rfl := Array.eq_empty_of_size_eq_zero hfg.1
            obtain rfl := Array.eq_empty_of_size_eq_zero hfg.2
            simp only [Option.map_eq_some_iff, Prod.mk.injEq] at hc
            obtain ⟨vs, hm, rfl, rfl, hd⟩ := hc
            refine yieldO hop (evQ_ok I.fr hx) ?_ (wantQ_ok I hw) hY fun e w' he => ?_
            · rw [← mapQ_ok I.fr hm]; apply Array.ext'; simp
            · obtain ⟨v, rfl, h2⟩ := k e w' he
              refine ⟨v, rfl, ?_⟩
              rw [hd]
              exact lastS h2
          · cases hc
        · cases hc
      · cases hc
    · cases hc
end
theorem covers_any (h : Nat) (ad : Option Addr) (n cap : Nat) (w : World) : Calls Try.prog 19 #[U h, .slice ad n cap] w fun e w' => ∃ gh gl, e = .returned (.func (.func 29) #[] #[.pointer (some ⟨gh, 0, none⟩), .pointer (some ⟨gl, 0, none⟩)]) ∧ w.heap.size ≤ gh ∧ w.heap.size ≤ gl ∧ gh ≠ gl ∧ HasRow w' gh (rU h) ∧ HasRow w' gl #[.slice ad n cap] ∧ Below w.heap.size w w' := by
  refine inQ (J := Below w.heap.size w) (F := (· < w.heap.size)) Try.func19 (Below.refl _ _) fun a I => ?_
  refine goQ [] (nonR w) I fun β a w1 I hb => ?_
  refine mkfX (fn := .func 29) (ss := [Sum.inr (0, 0), Sum.inr (1, 0)]) I ?_
  obtain ⟨gh, hgh⟩ : ∃ g, β 0 = g := ⟨_, rfl⟩
  obtain ⟨gl, hgl⟩ : ∃ g, β 1 = g := ⟨_, rfl⟩
  have d0 := I.dis _ (rowOf_mem (id := 0) (c := rU h) (by kernel_rfl))
  have d1 := I.dis _ (rowOf_mem (id := 1) (c := #[.slice ad n cap]) (by kernel_rfl))
  have d2 := I.inj _ (rowOf_mem (id := 0) (c := rU h) (by kernel_rfl)) _ (rowOf_mem (id := 1) (c := #[.slice ad n cap]) (by kernel_rfl)) (by simp)
  have r0 := I.rowG 0 hgh (r := rU h)
  have r1 := I.rowG 1 hgl (r := #[.slice ad n cap])
  simp only [hgh, hgl] at d0 d1 d2
  have I := I.same (.func (.func 29) #[] #[.pointer (some ⟨gh, 0, none⟩), .pointer (some ⟨gl, 0, none⟩)])
  have e : (([Sum.inr (0, 0), Sum.inr (1, 0)] : List SV).map (up β)).toArray = #[.pointer (some ⟨gh, 0, none⟩), .pointer (some ⟨gl, 0, none⟩)] := by simp [up, hgh, hgl]
  rw [e]
  refine goQ [] (nonR w) I fun β2 a2 w2 I2 hb2 => ?_
  have e0 : β2 0 = gh := by rw [← hgh]; exact hb2 0 (show 0 < 2 by decide)
  have e1 : β2 1 = gl := by rw [← hgl]; exact hb2 1 (show 1 < 2 by decide)
  exact outQ (v := .func (.func 29) #[] #[.pointer (some ⟨gh, 0, none⟩), .pointer (some ⟨gl, 0, none⟩)]) I2 ⟨gh, gl, rfl, Nat.le_of_not_lt d0, Nat.le_of_not_lt d1, d2, I2.rowG 0 e0, I2.rowG 1 e1, I2.hJ⟩
/-- What the iterator reads. -/
structure XC (gh gl h : Nat) (v : Value) (l : List Al) (w : World) : Prop where
  rh : HasRow w gh (rU h)
  rl : HasRow w gl #[v]
  sl : AlI w v l
abbrev aD : Al := (⟨#[]⟩, 0, 0, ⟨#[]⟩, ⟨#[]⟩)
def cvE (h : Nat) (l : List Al) (i : Nat) : Array Value := #[alV (l.getD i aD), U (shN h l i (l.getD i aD))]
abbrev coK : List Nat := [0, 1, 2, 4, 9, 10, 11]
abbrev coW (l gh gl : Nat) (v : Value) (n i : Nat) : Vs := frm 31 [(0, Sum.inl (.func (.yield l) #[] #[])), (1, Sum.inl (.pointer (some ⟨gh, 0, none⟩))), (2, Sum.inl (.pointer (some ⟨gl, 0, none⟩))), (4, Sum.inr (0, 0)), (9, Sum.inl v), (10, Sum.inl (Z n)), (11, Sum.inl (Z i))]
set_option maxHeartbeats 4000000 in
theorem covers_seq (n gh gl h : Nat) (hh : h < W) (v : Value) (l : List Al) (hl : l.length < 1000000) : SeqM n Try.prog 29 #[.pointer (some ⟨gh, 0, none⟩), .pointer (some ⟨gl, 0, none⟩)] (cvE h l) l.length (XC gh gl h v l) := by
  intro y J M0 V hJ hsz hM hX hY h0
  refine callsIn_wide.2 ?_
  show Calls Try.prog 29 #[.func (.yield y) #[] #[], .pointer (some ⟨gh, 0, none⟩), .pointer (some ⟨gl, 0, none⟩)] V _
  have R : ∀ i M, Rsrc (J i M) (fun k => k < V.heap.size ∨ M k) := fun i M => ⟨fun A B h g => hJ i M A B h g, fun A k h hk => hk.elim (fun hk => Nat.lt_of_lt_of_le hk (hsz i M A h)) (hM i M A k h)⟩
  have hlh : ∀ w', XC gh gl h v l w' → (loadVar 24 ⟨gh, 0, none⟩).run Try.prog w' = .ok (U h) w' := fun w' hx => loadNu fun j u hu => by rw [hx.rh.cell]; simpa [u4] using hu
  have hll : ∀ w', XC gh gl h v l w' → (loadVar 25 ⟨gl, 0, none⟩).run Try.prog w' = .ok v w' := fun w' hx => load1 (o := 0) (cs := [v]) (fun j u hu => by rw [hx.rl.cell]; simpa using hu) 0 rfl 25 Try.underlying25 rfl
  obtain ⟨ad, cap, rfl, _⟩ := (hX _ _ _ h0).sl
  refine inQ (J := J 0 M0) (F := fun k => k < V.heap.size ∨ M0 k) Try.func29 h0 fun a I => ?_
  refine goT (T := XC gh gl h (.slice ad l.length cap) l) [ldA 24 hlh, ldA 25 hll, lnA ad l.length cap] (R 0 M0) (hX 0 M0) I fun β a w1 I hb => ?_
  let St : Nat → Act → World → Prop := fun k a w' => ∃ (i : Nat) (M : Nat → Prop) (β : Nat → Nat) (u : Nat → Value), k = l.length - i ∧ i ≤ l.length ∧ SI (J i M) (fun k => k < V.heap.size ∨ M k) [] β (cfC (bodyL Try.f29) (fillF (scrF 31 coK) u 0 (coW y gh gl (.slice ad l.length cap) l.length i)) [(0, rU (lfN h l i))] 1) a w'
  refine lpM (bodyL Try.f29) St l.length ?_ ?_
  · obtain ⟨u, Iu⟩ := I.scr (bodyL Try.f29) (scrF 31 coK) (coW y gh gl (.slice ad l.length cap) l.length 0) [(0, rU h)] 1
    exact ⟨0, M0, β, u, by omega, Nat.zero_le _, by rw [lfN_zero]; exact Iu⟩
  rintro k a3 w3 ⟨i, M, β3, u, rfl, hi, I⟩
  refine wp_cfC (tm := fillF (scrF 31 coK) u 0 (coW y gh gl (.slice ad l.length cap) l.length i)) (rows := [(0, rU (lfN h l i))]) (nx := 1) ?_
  rcases Nat.lt_or_ge i l.length with hil | hil
  · obtain ⟨x, hx⟩ : ∃ t, l[i]? = some t := ⟨_, List.getElem?_eq_getElem hil⟩
    have hst := lfN_step h hx
    have hlt : lfN h l i < W := Nat.lt_of_le_of_lt (lfN_le h l i) hh
    have hY3 := hY i M
    have hxD : l.getD i aD = x := by rw [List.getD_eq_getElem?_getD, hx]; rfl
    unfold cvE at hY3
    rw [hxD] at hY3
    have hxl : x.2.1 < W := by
      obtain ⟨ad', cap', he, hm⟩ := (hX i M w3 I.hJ).sl
      cases he
      obtain ⟨g, off, cs, _, _, _, _, hC⟩ := hm i x hx
      exact hC
    have hmin := lesser_any (lfN h l i) x.2.1 hlt hxl
    have hsub := subOk sub_any hlt (Nat.min_le_left (lfN h l i) x.2.1)
    have hshl : shN h l i x = min (lfN h l i) x.2.1 := rfl
    rw [← hshl] at hmin hsub
    rw [← hst] at hsub
    clear hst hshl
    obtain ⟨g, off, rfl⟩ : ∃ g off, ad = some ⟨g, off, none⟩ := by
      obtain ⟨ad', cap', he, hm⟩ := (hX i M w3 I.hJ).sl
      cases he
      obtain ⟨g, off, cs, h1, _⟩ := hm i x hx
      exact ⟨g, off, h1⟩
    have hld : ∀ w', XC gh gl h (.slice (some ⟨g, off, none⟩) l.length cap) l w' → (loadVar 42 ⟨g, off + i * 8, none⟩).run Try.prog w' = .ok (alV x) w' := fun w' hq => by
      obtain ⟨ad', cap', he, hm⟩ := hq.sl
      cases he
      obtain ⟨g', off', cs, he2, _, hca, rfl, _⟩ := hm i x hx
      cases he2
      exact loadAl hca
    obtain ⟨d, am, kd, le, ri⟩ := x
    simp only [] at hmin
    unfold alV al8 at hld hY3
    simp only [] at hld hY3
    generalize shN h l i (d, am, kd, le, ri) = sh at *
    generalize lfN h l i = lf at *
    obtain ⟨lf1, hf1⟩ : ∃ z, lfN h l (i + 1) = z := ⟨_, rfl⟩
    rw [hf1] at hsub
    refine goT (T := XC gh gl h (.slice (some ⟨g, off, none⟩) l.length cap) l) [lT i l.length (by omega), ixA g off l.length cap i hil, ldA 42 hld, kC Try.func30 hmin, kC Try.func21 hsub] (R i M) (hX i M) I fun β4 a4 w4 I hb4 => ?_
    refine regY n 3 ?_
    refine goT (T := XC gh gl h (.slice (some ⟨g, off, none⟩) l.length cap) l) [] (R i M) (hX i M) (I.cf rfl rfl rfl) fun β5 a5 w5 I hb5 => ?_
    refine atN ?_
    refine yieldM (args := [.agg #[.string d, B (l0 am), B (l1 am), B (l2 am), B (l3 am), Z kd, .string le, .string ri], U sh]) _ 28 I (hY3 w5 hil I.hJ) fun e w6 he => ?_
    obtain ⟨rfl, M', hj6, hg6, hm6⟩ := he
    refine ⟨.bool true, rfl, ?_⟩
    have I6 := I.move (J' := J (i + 1) M') (F' := fun k => k < V.heap.size ∨ M' k) hg6 hj6 (fun k hk h => h.elim .inl fun h => (hm6 k h).elim .inr fun h => by omega) (some 28) (some (.bool true))
    refine goQ [ntO true] (R (i + 1) M') (I6.cf rfl rfl rfl) fun β7 a7 w7 I hb7 => ?_
    refine atN (atK I fun I => ?_)
    refine goQ [p1 i (by omega)] (R (i + 1) M') I fun β7 a7 w7 I hb7 => ?_
    obtain ⟨u', Iu⟩ := I.scr (bodyL Try.f29) (scrF 31 coK) (coW y gh gl (.slice (some ⟨g, off, none⟩) l.length cap) l.length (i + 1)) [(0, rU lf1)] 1
    exact endL ⟨l.length - (i + 1), by omega, i + 1, M', β7, u', rfl, hil, by rw [hf1]; exact Iu⟩
  · obtain rfl : i = l.length := by omega
    refine goQ [lF l.length l.length (by omega)] (R _ M) I fun β4 a4 w4 I hb4 => ?_
    refine endE 0 ?_
    refine goQ [] (R _ M) (I.exit _) fun β5 a5 w5 I hb5 => ?_
    exact outQ (v := .tuple #[]) I ⟨⟨_, rfl⟩, M, I.hJ⟩ (hd := .inr (by kernel_rfl))
end Go.Proofs.Ytabghfcjpaileaa
