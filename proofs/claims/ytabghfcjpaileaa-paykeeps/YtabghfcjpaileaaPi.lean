/- Why places can't be paid: both sides. -/
import Derived.Test.YtabghfcjpaileaaPh
namespace Go.Proofs.Ytabghfcjpaileaa
open Go.RowKit Go.Sort
set_option linter.unusedVariables false
set_option maxRecDepth 100000
/-- The least place that may be named next. -/
def nxP (p : List Int) : Nat → Int
  | 0 => 0
  | j + 1 => p.getD j 0 + 1
def okJ (n : Nat) (p : List Int) (j : Nat) : Bool := decide (nxP p j ≤ p.getD j 0) && decide (p.getD j 0 < n)
def whB (n : Nat) (p : List Int) : Bool := (List.range p.length).all (okJ n p)
def plJ (l : List Al) (a : Int) : Bool := decide ((l.getD a.toNat aD).2.2.1 = 0)
def plB (l : List Al) (p : List Int) : Bool := p.all (plJ l)
def rfE (l : List Al) (p : List Int) : Int := if whB l.length p = false then 3 else if plB l p = false then 2 else 0
theorem whB_iff {n : Nat} {p : List Int} : whB n p = true ↔ ∀ j, j < p.length → nxP p j ≤ p.getD j 0 ∧ p.getD j 0 < n := by
  unfold whB okJ
  simp
theorem nx_pos {p : List Int} {n : Nat} : ∀ j, (∀ i, i < j → nxP p i ≤ p.getD i 0 ∧ p.getD i 0 < n) → 0 ≤ nxP p j
  | 0, _ => Int.le_refl _
  | j + 1, h => by
    have h1 := nx_pos j fun i hi => h i (by omega)
    have h2 := (h j (by omega)).1
    show 0 ≤ p.getD j 0 + 1
    omega
theorem getD_get {α : Type} {l : List α} {i : Nat} {x d : α} (h : l[i]? = some x) : l.getD i d = x := by rw [List.getD_eq_getElem?_getD, h]; rfl
theorem wh_range {n : Nat} {p : List Int} (h : whB n p = true) {x : Int} (hx : x ∈ p) : 0 ≤ x ∧ x < n := by
  obtain ⟨j, hj⟩ := List.mem_iff_getElem?.1 hx
  have hjl := (List.getElem?_eq_some_iff.1 hj).1
  have h1 := whB_iff.1 h
  have h2 := nx_pos j fun i hi => h1 i (by omega)
  have h3 := h1 j hjl
  rw [getD_get hj] at h3
  omega
theorem wh_rise {n : Nat} {p : List Int} (h : whB n p = true) : p.Pairwise (· < ·) := by
  have h1 := whB_iff.1 h
  have step : ∀ d i, i + 1 + d < p.length → p.getD i 0 < p.getD (i + 1 + d) 0 := fun d => by
    induction d with
    | zero =>
      intro i hi
      have := (h1 (i + 1) hi).1
      show p.getD i 0 < p.getD (i + 1) 0
      have e : nxP p (i + 1) = p.getD i 0 + 1 := rfl
      omega
    | succ d ih =>
      intro i hi
      have a := ih i (by omega)
      have := (h1 (i + 1 + d + 1) (by omega)).1
      have e : nxP p (i + 1 + d + 1) = p.getD (i + 1 + d) 0 + 1 := rfl
      show p.getD i 0 < p.getD (i + 1 + d + 1) 0
      omega
  rw [List.pairwise_iff_getElem]
  intro i j hi hj hij
  have := step (j - i - 1) i (by omega)
  rw [show i + 1 + (j - i - 1) = j by omega] at this
  rw [getD_get (List.getElem?_eq_getElem hi), getD_get (List.getElem?_eq_getElem hj)] at this
  exact this
abbrev cl27 (g : Nat) : Value := .func (.func 27) #[] #[ptr0 g]
/-- One place: is its kind another one? -/
theorem kind_any {w : World} {gl : Nat} {v : Value} {l : List Al} (hs : HasRow w gl #[v]) (h : AlI w v l) {x : Int} (h0 : 0 ≤ x) (h1 : x < l.length) : Calls Try.prog 27 #[Z x, ptr0 gl] w fun e w' => e = .returned (.bool (!plJ l x)) ∧ Below w.heap.size w w' := by
  obtain ⟨i, rfl⟩ : ∃ i : Nat, x = i := ⟨x.toNat, by omega⟩
  have hil : i < l.length := by omega
  obtain ⟨c, hc⟩ : ∃ t, l[i]? = some t := ⟨_, List.getElem?_eq_getElem hil⟩
  have e : (!plJ l (i : Int)) = decide (c.2.2.1 ≠ 0) := by
    unfold plJ
    rw [Int.toNat_natCast, getD_get hc]
    by_cases hq : c.2.2.1 = 0 <;> simp [hq]
  rw [e]
  obtain ⟨ad, cap, rfl, hm⟩ := h
  obtain ⟨ga, off, cs, rfl, hlt, hca, rfl, ham⟩ := hm i _ hc
  have hl1 : ∀ w', Below w.heap.size w w' → (loadVar 25 ⟨gl, 0, none⟩).run Try.prog w' = .ok (.slice (some ⟨ga, off, none⟩) l.length cap) w' := fun w' hb => load1 (o := 0) (cs := [.slice (some ⟨ga, off, none⟩) l.length cap]) (fun j u hu => by rw [(hs.below hb).cell]; simpa using hu) 0 rfl 25 Try.underlying25 rfl
  have hl2 : ∀ w', Below w.heap.size w w' → (loadVar 3 ⟨ga, off + i * 8 + 5, none⟩).run Try.prog w' = .ok (Z c.2.2.1) w' := fun w' hb => loadK (hca.keep (hb.block ga hlt))
  generalize c.2.2.1 = z at *
  obtain ⟨q, hq⟩ : ∃ q, decide (z ≠ 0) = q := ⟨_, rfl⟩
  rw [hq]
  refine inQ (J := Below w.heap.size w) (F := (· < w.heap.size)) Try.func27 (Below.refl _ _) fun a I => ?_
  refine goT (T := Below w.heap.size w) [ldA 25 hl1, ixA ga off l.length cap i hil, ldA 3 hl2, bO .neq 3 (run_neqZ (x := z) (y := 0) (b := q) hq)] (nonR w) (fun _ h => h) I fun β a w1 I hb => ?_
  exact outQ (v := .bool q) I ⟨rfl, I.hJ⟩
abbrev ifK : List Nat := [0, 1, 4, 6, 7, 8]
abbrev ifV (v f : Value) (n i : Nat) : Vs := frm 19 [(0, Sum.inl v), (1, Sum.inl f), (4, Sum.inl (Z 0)), (6, Sum.inl v), (7, Sum.inl (Z n)), (8, Sum.inl (Z i))]
theorem index_any {w : World} {gl : Nat} {v vp : Value} {l : List Al} {p : List Int} (hs : HasRow w gl #[v]) (h : AlI w v l) (hp : InI w vp p) (hl : p.length < 1000000000) (hin : ∀ x ∈ p, 0 ≤ x ∧ x < l.length) : ∃ z : Int, decide (0 ≤ z) = (!plB l p) ∧ Calls Try.prog 33 #[vp, cl27 gl] w fun e w' => e = .returned (Z z) ∧ Below w.heap.size w w' := by
  have hK := fun (w' : World) (hb : Below w.heap.size w w') (x : Int) (hx : x ∈ p) => kind_any (hs.below hb) (h.below C8.loc hb) (hin x hx).1 (hin x hx).2
  obtain ⟨ad, cap, rfl, hm⟩ := hp
  obtain ⟨z, hz1, hz2⟩ : ∃ z : Int, decide (0 ≤ z) = (!plB l p) ∧ ((plB l p = true ∧ z = -1) ∨ ∃ i : Nat, z = i ∧ (∀ j x, j < i → p[j]? = some x → plJ l x = true) ∧ ∃ x, p[i]? = some x ∧ plJ l x = false) := by
    cases hq : plB l p with
    | true => exact ⟨-1, by decide, .inl ⟨rfl, rfl⟩⟩
    | false =>
      suffices H : ∀ (p : List Int), p.all (plJ l) = false → ∃ i : Nat, (∀ j x, j < i → p[j]? = some x → plJ l x = true) ∧ ∃ x, p[i]? = some x ∧ plJ l x = false by
        obtain ⟨i, h1, h2⟩ := H p hq
        exact ⟨i, by simp, .inr ⟨i, rfl, h1, h2⟩⟩
      intro p
      induction p with
      | nil => intro h; simp at h
      | cons a p ih =>
        intro h
        cases ha : plJ l a with
        | false => exact ⟨0, fun j x hj => absurd hj (Nat.not_lt_zero j), a, rfl, ha⟩
        | true =>
          obtain ⟨i, h1, h2⟩ := ih (by rw [List.all_cons, ha, Bool.true_and] at h; exact h)
          refine ⟨i + 1, fun j x hj hx => ?_, by simpa using h2⟩
          cases j with
          | zero => simp at hx; rw [← hx]; exact ha
          | succ j => exact h1 j x (by omega) (by simpa using hx)
  refine ⟨z, hz1, ?_⟩
  refine inQ (J := Below w.heap.size w) (F := (· < w.heap.size)) Try.func33 (Below.refl _ _) fun a I => ?_
  refine goQ [lnI ad p.length cap] (nonR w) I fun β a w1 I hb => ?_
  refine lpM (bodyL Try.f33) (fun k a w' => ∃ (i : Nat) (β : Nat → Nat) (u : Nat → Value), k = p.length - i ∧ i ≤ p.length ∧ (∀ j x, j < i → p[j]? = some x → plJ l x = true) ∧ SI (Below w.heap.size w) (· < w.heap.size) [] β (cfC (bodyL Try.f33) (fillF (scrF 19 ifK) u 0 (ifV (.slice ad p.length cap) (cl27 gl) p.length i)) [] 0) a w') p.length ?_ ?_
  · obtain ⟨u, Iu⟩ := I.scr (bodyL Try.f33) (scrF 19 ifK) (ifV (.slice ad p.length cap) (cl27 gl) p.length 0) [] 0
    exact ⟨0, β, u, by omega, Nat.zero_le _, fun j x h => absurd h (Nat.not_lt_zero j), Iu⟩
  rintro k a3 w3 ⟨i, β3, u, rfl, hi, hok, I⟩
  refine wp_cfC (tm := fillF (scrF 19 ifK) u 0 (ifV (.slice ad p.length cap) (cl27 gl) p.length i)) (rows := []) (nx := 0) ?_
  rcases Nat.lt_or_ge i p.length with hil | hil
  · obtain ⟨x, k1⟩ : ∃ t, p[i]? = some t := ⟨_, List.getElem?_eq_getElem hil⟩
    obtain ⟨g, off, cs, rfl, hlt, hca, rfl⟩ := hm i _ k1
    have hld : ∀ w', Below w.heap.size w w' → (loadVar 3 ⟨g, off + i * 1, none⟩).run Try.prog w' = .ok (Z x) w' := fun w' hb => loadI (hca.keep (hb.block g hlt))
    have hKx := fun (w' : World) (hb : Below w.heap.size w w') => hK w' hb x (List.mem_of_getElem? k1)
    refine goQ [lT i p.length (by omega)] (nonR w) I fun β4 a4 w4 I hb4 => ?_
    refine inY I fun I => ?_
    refine goT (T := Below w.heap.size w) [ixI g off p.length cap i hil, ldA 3 hld] (nonR w) (fun _ h => h) I fun β5 a5 w5 I hb5 => ?_
    cases hq : plJ l x with
    | true =>
      rw [hq] at hKx
      refine bcallX [Sum.inl (Z x), Sum.inl (ptr0 gl)] Try.func27 (nonR w) I (fun v => v = .bool false) ((hKx w5 I.hJ).mono fun e w' he => ⟨he.2, _, he.1, rfl⟩) fun v w6 hv I => ?_
      subst hv
      refine goQ [p1 i (by omega)] (nonR w) I fun β7 a7 w7 I hb7 => ?_
      obtain ⟨u', Iu⟩ := I.scr (bodyL Try.f33) (scrF 19 ifK) (ifV (.slice (some ⟨g, off, none⟩) p.length cap) (cl27 gl) p.length (i + 1)) [] 0
      refine endL ⟨p.length - (i + 1), by omega, i + 1, β7, u', rfl, hil, fun j y hj hy => ?_, Iu⟩
      rcases Nat.lt_or_ge j i with hji | hji
      · exact hok j y hji hy
      · obtain rfl : j = i := by omega
        rw [k1] at hy; cases hy; exact hq
    | false =>
      rw [hq] at hKx
      refine bcallX [Sum.inl (Z x), Sum.inl (ptr0 gl)] Try.func27 (nonR w) I (fun v => v = .bool true) ((hKx w5 I.hJ).mono fun e w' he => ⟨he.2, _, he.1, rfl⟩) fun v w6 hv I => ?_
      subst hv
      refine goQ [] (nonR w) I fun β7 a7 w7 I hb7 => ?_
      refine endR (retV (v := Z i) I ⟨?_, I.hJ⟩)
      have : z = i := by
        rcases hz2 with ⟨h1, _⟩ | ⟨i2, h1, h2, y, h3, h4⟩
        · have := List.all_eq_true.1 h1 x (List.mem_of_getElem? k1)
          rw [hq] at this; cases this
        · rw [h1]
          rcases Nat.lt_trichotomy i i2 with h | h | h
          · have := h2 i x h k1
            rw [hq] at this; cases this
          · rw [h]
          · have := hok i2 y h h3
            rw [h4] at this; cases this
      rw [this]
  · obtain rfl : i = p.length := by omega
    refine goQ [lF p.length p.length (by omega)] (nonR w) I fun β4 a4 w4 I hb4 => ?_
    refine endE 0 ?_
    refine goQ [] (nonR w) (I.exit _) fun β5 a5 w5 I hb5 => ?_
    refine outQ (v := Z (-1)) I ⟨?_, I.hJ⟩
    rcases hz2 with ⟨h1, rfl⟩ | ⟨i2, h1, h2, y, h3, h4⟩
    · rfl
    · have := hok i2 y (List.getElem?_eq_some_iff.1 h3).1 h3
      rw [h4] at this; cases this
theorem contains_any {w : World} {gl : Nat} {v vp : Value} {l : List Al} {p : List Int} (hs : HasRow w gl #[v]) (h : AlI w v l) (hp : InI w vp p) (hl : p.length < 1000000000) (hin : ∀ x ∈ p, 0 ≤ x ∧ x < l.length) : Calls Try.prog 26 #[vp, cl27 gl] w fun e w' => e = .returned (.bool (!plB l p)) ∧ Below w.heap.size w w' := by
  have hI := fun (w' : World) (hb : Below w.heap.size w w') => index_any (hs.below hb) (h.below C8.loc hb) (hp.below C1.loc hb) hl hin
  obtain ⟨ad, cap, rfl⟩ := hp.slice
  generalize (!plB l p) = q at *
  refine inQ (J := Below w.heap.size w) (F := (· < w.heap.size)) Try.func26 (Below.refl _ _) fun a I => ?_
  refine goQ [] (nonR w) I fun β a w1 I hb => ?_
  obtain ⟨z, hz, hc⟩ := hI w1 I.hJ
  refine mcall (f := 33) (ss := [Sum.inl (.slice ad p.length cap), Sum.inl (cl27 gl)]) Try.func33 I (hc.mono fun e w2 he => ?_)
  obtain ⟨rfl, hb2⟩ := he
  refine goQ [bO .geq 3 (run_geqZ (x := z) (y := 0) (b := q) hz)] (nonR w) (I.moved (Grow.of_below hb2) ((nonR w).loc _ _ I.hJ (Grow.of_below hb2)) (fun _ _ h => h) (Z z)) fun β3 a3 w3 I hb3 => ?_
  exact outQ (v := .bool q) I ⟨rfl, I.hJ⟩
abbrev rfK2 : List Nat := [1, 2, 4, 5, 8, 9, 10]
abbrev rfV (vp : Value) (nx : Int) (n i : Nat) : Vs := frm 29 [(1, Sum.inl vp), (2, Sum.inr (0, 0)), (4, Sum.inl (Z 0)), (5, Sum.inl (Z nx)), (8, Sum.inl vp), (9, Sum.inl (Z n)), (10, Sum.inl (Z i))]
theorem rfE_at {l : List Al} {p : List Int} {i : Nat} (hi : i < p.length) (h : ¬ (nxP p i ≤ p.getD i 0 ∧ p.getD i 0 < l.length)) : rfE l p = 3 := by
  unfold rfE
  rw [if_pos]
  cases hq : whB l.length p with
  | false => rfl
  | true => exact absurd (whB_iff.1 hq i hi) h
set_option maxHeartbeats 4000000 in
theorem refused_any {w : World} {v vp : Value} {l : List Al} {p : List Int} (h : AlI w v l) (hp : InI w vp p) (hl : p.length < 1000000000) (hll : l.length < 1000000) : Calls Try.prog 17 #[v, vp] w fun e w' => e = .returned (Z (rfE l p)) ∧ Below w.heap.size w w' := by
  have hI := fun (g : Nat) (w' : World) (hb : Below w.heap.size w w') (hr : HasRow w' g #[v]) => contains_any hr (h.below C8.loc hb) (hp.below C1.loc hb) hl
  obtain ⟨adl, capl, rfl⟩ := h.slice
  obtain ⟨ad, cap, rfl, hm⟩ := hp
  refine inQ (J := Below w.heap.size w) (F := (· < w.heap.size)) Try.func17 (Below.refl _ _) fun a I => ?_
  refine goQ [lnI ad p.length cap] (nonR w) I fun β a w1 I hb => ?_
  refine lpM (bodyL Try.f17) (fun k a w' => ∃ (i : Nat) (β : Nat → Nat) (u : Nat → Value), k = p.length - i ∧ i ≤ p.length ∧ (∀ j, j < i → nxP p j ≤ p.getD j 0 ∧ p.getD j 0 < l.length) ∧ SI (Below w.heap.size w) (· < w.heap.size) [] β (cfC (bodyL Try.f17) (fillF (scrF 29 rfK2) u 0 (rfV (.slice ad p.length cap) (nxP p i) p.length i)) [(0, #[.slice adl l.length capl])] 1) a w') p.length ?_ ?_
  · obtain ⟨u, Iu⟩ := I.scr (bodyL Try.f17) (scrF 29 rfK2) (rfV (.slice ad p.length cap) 0 p.length 0) [(0, #[.slice adl l.length capl])] 1
    exact ⟨0, β, u, by omega, Nat.zero_le _, fun j h => absurd h (Nat.not_lt_zero j), Iu⟩
  rintro k a3 w3 ⟨i, β3, u, rfl, hi, hok, I⟩
  refine wp_cfC (tm := fillF (scrF 29 rfK2) u 0 (rfV (.slice ad p.length cap) (nxP p i) p.length i)) (rows := [(0, #[.slice adl l.length capl])]) (nx := 1) ?_
  rcases Nat.lt_or_ge i p.length with hil | hil
  · obtain ⟨x, k1⟩ : ∃ t, p[i]? = some t := ⟨_, List.getElem?_eq_getElem hil⟩
    obtain ⟨g, off, cs, rfl, hlt, hca, rfl⟩ := hm i _ k1
    have hld : ∀ w', Below w.heap.size w w' → (loadVar 3 ⟨g, off + i * 1, none⟩).run Try.prog w' = .ok (Z x) w' := fun w' hb => loadI (hca.keep (hb.block g hlt))
    have hno := rfE_at (l := l) hil
    have hn1 : nxP p (i + 1) = x + 1 := by show p.getD i 0 + 1 = x + 1; rw [getD_get k1]
    have hxi : p.getD i 0 = x := getD_get k1
    rw [hxi] at hno
    generalize hnx : nxP p i = nx at *
    by_cases q1 : x < nx
    · refine goT (T := Below w.heap.size w) [lT i p.length (by omega), ixI g off p.length cap i hil, ldA 3 hld, bO .lss 3 (run_lssZ (x := x) (y := nx) (b := true) (decide_eq_true q1))] (nonR w) (fun _ h => h) I fun β4 a4 w4 I hb4 => ?_
      exact endR (retV (v := Z 3) I ⟨by rw [hno (by omega)], I.hJ⟩)
    by_cases q2 : (l.length : Int) ≤ x
    · refine goT (T := Below w.heap.size w) [lT i p.length (by omega), ixI g off p.length cap i hil, ldA 3 hld, bO .lss 3 (run_lssZ (x := x) (y := nx) (b := false) (decide_eq_false q1)), lnA adl l.length capl, bO .geq 3 (run_geqZ (x := x) (y := l.length) (b := true) (decide_eq_true q2))] (nonR w) (fun _ h => h) I fun β4 a4 w4 I hb4 => ?_
      exact endR (retV (v := Z 3) I ⟨by rw [hno (by omega)], I.hJ⟩)
    have h0x : 0 ≤ x := by have := nx_pos i hok; omega
    refine goT (T := Below w.heap.size w) [lT i p.length (by omega), ixI g off p.length cap i hil, ldA 3 hld, bO .lss 3 (run_lssZ (x := x) (y := nx) (b := false) (decide_eq_false q1)), lnA adl l.length capl, bO .geq 3 (run_geqZ (x := x) (y := l.length) (b := false) (decide_eq_false q2)), bO .add 3 (run_addZ (x := x) (y := 1) (z := x + 1) (wz (by omega) (by omega))), p1 i (by omega)] (nonR w) (fun _ h => h) I fun β4 a4 w4 I hb4 => ?_
    obtain ⟨u', Iu⟩ := I.scr (bodyL Try.f17) (scrF 29 rfK2) (rfV (.slice (some ⟨g, off, none⟩) p.length cap) (x + 1) p.length (i + 1)) [(0, #[.slice adl l.length capl])] 1
    refine endL ⟨p.length - (i + 1), by omega, i + 1, β4, u', rfl, hil, fun j hj => ?_, by rw [hn1]; exact Iu⟩
    rcases Nat.lt_or_ge j i with hji | hji
    · exact hok j hji
    · obtain rfl : j = i := by omega
      rw [hnx, hxi]
      omega
  · obtain rfl : i = p.length := by omega
    have hw : whB l.length p = true := whB_iff.2 hok
    have hin : ∀ x ∈ p, 0 ≤ x ∧ x < l.length := fun x hx => wh_range hw hx
    refine goQ [lF p.length p.length (by omega)] (nonR w) I fun β4 a4 w4 I hb4 => ?_
    refine endE 0 ?_
    refine goQ [] (nonR w) (I.exit _) fun β5 a5 w5 I hb5 => ?_
    refine mkfX (fn := .func 27) (ss := [Sum.inr (0, 0)]) I ?_
    have hr0 := I.rowAt 0 (r := #[.slice adl l.length capl])
    have hC := hI (β5 0) w5 I.hJ hr0 hin
    cases hq : plB l p with
    | true =>
      rw [hq] at hC
      refine bcallX [Sum.inl (.slice ad p.length cap), Sum.inl (cl27 (β5 0))] Try.func26 (nonR w) (I.same (cl27 (β5 0))) (fun v => v = .bool false) (hC.mono fun e w' he => ⟨he.2, _, he.1, rfl⟩) fun v w6 hv I => ?_
      subst hv
      refine goQ [] (nonR w) I fun β7 a7 w7 I hb7 => ?_
      refine outQ (v := Z 0) I ⟨?_, I.hJ⟩
      unfold rfE
      rw [hw, hq]
      rfl
    | false =>
      rw [hq] at hC
      refine bcallX [Sum.inl (.slice ad p.length cap), Sum.inl (cl27 (β5 0))] Try.func26 (nonR w) (I.same (cl27 (β5 0))) (fun v => v = .bool true) (hC.mono fun e w' he => ⟨he.2, _, he.1, rfl⟩) fun v w6 hv I => ?_
      subst hv
      refine goQ [] (nonR w) I fun β7 a7 w7 I hb7 => ?_
      refine outQ (v := Z 2) I ⟨?_, I.hJ⟩
      unfold rfE
      rw [hw, hq]
      rfl
end Go.Proofs.Ytabghfcjpaileaa
