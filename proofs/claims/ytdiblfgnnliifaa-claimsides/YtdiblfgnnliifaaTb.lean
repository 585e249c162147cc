/- Rows of one's own in which an amount is changed; small functions. -/
import Derived.Test.YtdiblfgnnliifaaPh
namespace Go.Proofs.Ytdiblfgnnliifaa
open Go.RowKit Go.Sort
set_option linter.unusedVariables false
set_option maxRecDepth 100000
theorem over_take {α : Type} {A cs : List α} {o N : Nat} (h : o + cs.length ≤ N) (hN : N ≤ A.length) : (A.take o ++ cs ++ A.drop (o + cs.length)).take N = (A.take N).take o ++ cs ++ (A.take N).drop (o + cs.length) := by
  have e : A = A.take N ++ A.drop N := (List.take_append_drop N A).symm
  have hX : (A.take N).length = N := by rw [List.length_take]; omega
  generalize A.take N = X at *
  generalize A.drop N = Y at *
  subst e
  have h1 : (X ++ Y).take o = X.take o := by rw [List.take_append_of_le_length (by omega)]
  have h2 : (X ++ Y).drop (o + cs.length) = X.drop (o + cs.length) ++ Y := by rw [List.drop_append_of_le_length (by omega)]
  rw [h1, h2, ← List.append_assoc]
  refine List.take_left' ?_
  rw [List.length_append, List.length_append, List.length_take, List.length_drop]
  omega
theorem flat_st : ∀ (l : List Al) (i n : Nat), i < l.length → ((stA l i n).map al8).flatten = ((l.map al8).flatten.take (i * 8 + 1) ++ u4 n) ++ (l.map al8).flatten.drop (i * 8 + 1 + 4)
  | [], i, n, h => by simp at h
  | x :: l, 0, n, _ => rfl
  | x :: l, i + 1, n, h => by
    have ih := flat_st l i n (by rw [List.length_cons] at h; omega)
    have h8 : (al8 x).length = 8 := rfl
    show al8 x ++ ((stA l i n).map al8).flatten = ((al8 x ++ (l.map al8).flatten).take ((i + 1) * 8 + 1) ++ u4 n) ++ (al8 x ++ (l.map al8).flatten).drop ((i + 1) * 8 + 1 + 4)
    rw [ih, show (i + 1) * 8 + 1 + 4 = (al8 x).length + (i * 8 + 1 + 4) by rw [h8]; omega, show (i + 1) * 8 + 1 = (al8 x).length + (i * 8 + 1) by rw [h8]; omega, List.take_length_add_append, List.drop_length_add_append]
    simp only [List.append_assoc]
theorem own_store {w : World} {b cap g : Nat} {l : List Al} (h : w.ownsRow b 39 8 (.slice (some ⟨g, 0, none⟩) l.length cap) l.length (l.map al8).flatten) {i : Nat} (hi : i < l.length) (n : Nat) :
    ∃ cur, HasRow w g cur ∧ 0 + i * 8 + 1 + 4 ≤ cur.size ∧ (w.setRow g (over cur (0 + i * 8 + 1) (u4 n).toArray)).ownsRow b 39 8 (.slice (some ⟨g, 0, none⟩) l.length cap) l.length ((stA l i n).map al8).flatten := by
  rcases h.2 with ⟨he, _⟩ | ⟨g', cap', cur, he, hb, hg, hnc, hcm, hcs, hct⟩
  · cases he
  · cases he
    have hle : l.length * 8 ≤ cap * 8 := Nat.mul_le_mul_right _ hnc
    have hA : cur.toList.length = cap * 8 := by rw [Array.length_toList, hcs]
    have h4 : (u4 n).length = 4 := rfl
    refine ⟨cur, ⟨39, hg⟩, by omega, ?_, .inr ⟨g, cap, _, rfl, hb, setRow_heap w g cur _ 39 _ hg, hnc, hcm, ?_, ?_⟩⟩
    · rw [flat_len8, stA_len]
    · unfold over
      simp only [List.size_toArray, List.length_append, List.length_take, List.length_drop, h4, hA]
      omega
    · have e := over_take (A := cur.toList) (cs := u4 n) (o := i * 8 + 1) (N := l.length * 8) (by rw [h4]; omega) (by omega)
      rw [hct, h4] at e
      rw [flat_st l i n hi, ← e]
      unfold over
      simp only [Nat.zero_add, List.size_toArray, h4]
theorem GS.st {w0 WR : World} {b : Nat} {Kp K : Nat → Prop} {Fs : List Lf} {g cap : Nat} {l : List Al} {w : World} (h : GS w0 WR b Kp K Fs [alO (.slice (some ⟨g, 0, none⟩) l.length cap) l] w) {i : Nat} (hi : i < l.length) (n : Nat) :
    ∃ cur, HasRow w g cur ∧ 0 + i * 8 + 1 + 4 ≤ cur.size ∧ GS w0 WR b Kp K Fs [alO (.slice (some ⟨g, 0, none⟩) l.length cap) (stA l i n)] (w.setRow g (over cur (0 + i * 8 + 1) (u4 n).toArray)) := by
  have ho := h.ow _ (List.mem_singleton.2 rfl)
  simp only [List.length_map] at ho
  obtain ⟨cur, h1, h2, h3⟩ := own_store ho hi n
  have hon := h.on _ (List.mem_singleton.2 rfl) g rfl
  have hne : ∀ k, k ≠ g → (w.setRow g (over cur (0 + i * 8 + 1) (u4 n).toArray)).heap[k]? = w.heap[k]? := fun k hk => setRow_other w g k _ hk
  have hsz : (w.setRow g (over cur (0 + i * 8 + 1) (u4 n).toArray)).heap.size = w.heap.size := by simp
  refine ⟨cur, h1, h2, ⟨⟨h.bw.os, h.bw.tape, h.bw.output, by rw [hsz]; exact h.bw.size, fun k hk => ?_⟩, by rw [hsz]; exact h.rs, by rw [hsz]; exact h.bs, h.kk, fun k hk => ?_, fun k hk => by rw [hsz]; exact h.kb k hk, h.lo, fun f hf => f.loc _ _ _ _ (fun k hk => ⟨hk, hne k fun e => hon.1 (e ▸ hk)⟩) (h.sl f hf), fun o ho' => ?_, fun o ho' k hk => ?_, List.pairwise_singleton _ _⟩⟩
  · exact (hne k fun e => hon.1 (e ▸ h.lo k hk)).trans (h.bw.block k hk)
  · exact (hne k fun e => hon.2 (e ▸ hk)).trans (h.nc k hk)
  · rw [List.mem_singleton.1 ho']
    simp only [List.length_map, stA_len]
    exact h3
  · rw [List.mem_singleton.1 ho'] at hk
    exact h.on _ (List.mem_singleton.2 rfl) k hk
theorem GF.st {Kp K : Nat → Prop} {v : Value} {l l' : List Al} {k : Nat} (h : GF Kp K [alO v l] k) : GF Kp K [alO v l'] k := by
  rcases h with h | ⟨o, ho, hk⟩ | h
  · exact .inl h
  · rw [List.mem_singleton.1 ho] at hk
    exact .inr (.inl ⟨_, List.mem_singleton.2 rfl, hk⟩)
  · exact .inr (.inr h)
theorem run_stU {w : World} {g off : Nat} {cur : Array Value} (h : HasRow w g cur) (hn : off + 4 ≤ cur.size) (n : Nat) : (storeVar 25 ⟨g, off, none⟩ (U n)).run Try.prog w = .ok () (w.setRow g (over cur off (u4 n).toArray)) := by
  obtain ⟨t, hg⟩ := h
  have hs := run_storeCells_at Try.prog g off t (u4 n) 0 cur w hg (by show off + 0 + 4 ≤ _; omega) (one_nu n)
  have h3 : (cur.toList.take (off + 0) ++ u4 n ++ cur.toList.drop (off + 0 + (u4 n).length)).toArray = over cur off (u4 n).toArray := by simp [over]
  rw [h3] at hs
  obtain ⟨i, hi, hz, hs', hby⟩ := hI24
  have hc : (U n).cells = (u4 n).toArray := rfl
  have h4 : (u4 n).toArray.size = 4 := rfl
  simpa [storeVar, sizeOf, typeInfo, hi, hc, hs', h4] using hs
section
variable {w0 WR : World} {b : Nat} {Kp K : Nat → Prop} {Fs : List Lf} {ds : List Deferred} {β : Nat → Nat} {c : Cf} {a : Act} {w : World} {Q : Exit → Act → World → Prop}
/-- An amount in a row of one's own is changed. -/
theorem stO {g cap i n : Nat} {l : List Al} (hi : i < l.length) (I : SI (GS w0 WR b Kp K Fs [alO (.slice (some ⟨g, 0, none⟩) l.length cap) l]) (GF Kp K [alO (.slice (some ⟨g, 0, none⟩) l.length cap) l]) ds β c a w)
    (k : ∀ w', SI (GS w0 WR b Kp K Fs [alO (.slice (some ⟨g, 0, none⟩) l.length cap) (stA l i n)]) (GF Kp K [alO (.slice (some ⟨g, 0, none⟩) l.length cap) (stA l i n)]) ds β (nextQ c (dstQ c) none) (a.put (dstQ c) undef) w' → At Try.prog Q (nextQ c (dstQ c) none) (a.put (dstQ c) undef) w')
    (hc : stQ c = some (25, Sum.inl (.pointer (some ⟨g, 0 + i * 8 + 1, none⟩)), Sum.inl (U n)) := by kernel_rfl) : At Try.prog Q c a w := by
  obtain ⟨cur, h1, h2, h3⟩ := I.hJ.st hi n
  refine stoQ I (run_stU h1 h2 n) ?_ hc
  have I2 := I.move (F' := GF Kp K [alO (.slice (some ⟨g, 0, none⟩) l.length cap) (stA l i n)]) (s := none) (grow_setRow w g (over cur (0 + i * 8 + 1) (u4 n).toArray) (fun e => e (.inr (.inl ⟨_, List.mem_singleton.2 rfl, rfl⟩)))) h3 (fun k _ hk => GF.st hk) (dstQ c)
  exact k _ I2
end
/-- What is read of such a row. -/
theorem GS.own {w0 WR : World} {b : Nat} {Kp K : Nat → Prop} {Fs : List Lf} {v : Value} {l : List Al} {w : World} (h : GS w0 WR b Kp K Fs [alO v l] w) (hl : Lt l) : SlI 8 C8 (fun k => v.ownBlock = some k) w v l := alO_list (h.ow _ (List.mem_singleton.2 rfl)) hl
theorem GS.oAt {w0 WR : World} {b : Nat} {Kp K : Nat → Prop} {Fs : List Lf} {g cap n : Nat} {l : List Al} {w : World} (h : GS w0 WR b Kp K Fs [alO (.slice (some ⟨g, 0, none⟩) n cap) l] w) (hl : Lt l) {i : Nat} {x : Al} (hx : l[i]? = some x) : CellsAt w g (0 + i * 8) (al8 x) := by
  obtain ⟨ad, cap', he, hm⟩ := h.own hl
  cases he
  obtain ⟨g', off, cs, h1, _, h2, h3, _⟩ := hm i x hx
  cases h1
  rw [h3] at h2
  exact h2
theorem errIf_any (q : Bool) (e : Int) (w : World) : Calls Try.prog 21 #[.bool q, Z e] w fun r w' => r = .returned (Z (if q = true then e else 0)) ∧ Below w.heap.size w w' := by
  refine inQ (J := Below w.heap.size w) (F := (· < w.heap.size)) Try.func21 (Below.refl _ _) fun a I => ?_
  cases q with
  | true =>
    refine goQ [] (nonR w) I fun β a w1 I hb => ?_
    exact outQ (v := Z e) I ⟨rfl, I.hJ⟩
  | false =>
    refine goQ [] (nonR w) I fun β a w1 I hb => ?_
    exact outQ (v := Z 0) I ⟨rfl, I.hJ⟩
theorem place_raw (f : Nat) (hf : f = 26 ∨ f = 29) {w : World} (ad : Option Addr) (cap : Nat) (l : List Al) (k : Int) : Calls Try.prog f #[.slice ad l.length cap, Z k] w fun r w' => r = .returned (.bool (isP l k)) ∧ Below w.heap.size w w' := by
  obtain ⟨q, hq⟩ : ∃ q, isP l k = q := ⟨_, rfl⟩
  rw [hq]
  unfold isP at hq
  rcases hf with rfl | rfl
  · refine inQ (J := Below w.heap.size w) (F := (· < w.heap.size)) Try.func26 (Below.refl _ _) fun a I => ?_
    by_cases h0 : 0 ≤ k
    · rw [decide_eq_true h0, Bool.true_and] at hq
      refine goQ [bO .geq 3 (run_geqZ (x := k) (y := 0) (b := true) (decide_eq_true h0)), lnA ad l.length cap, bO .lss 3 (run_lssZ (x := k) (y := l.length) (b := q) hq)] (nonR w) I fun β a w1 I hb => ?_
      exact outQ (v := .bool q) I ⟨rfl, I.hJ⟩
    · rw [decide_eq_false h0, Bool.false_and] at hq
      subst hq
      refine goQ [bO .geq 3 (run_geqZ (x := k) (y := 0) (b := false) (decide_eq_false h0))] (nonR w) I fun β a w1 I hb => ?_
      exact outQ (v := .bool false) I ⟨rfl, I.hJ⟩
  · refine inQ (J := Below w.heap.size w) (F := (· < w.heap.size)) Try.func29 (Below.refl _ _) fun a I => ?_
    by_cases h0 : 0 ≤ k
    · rw [decide_eq_true h0, Bool.true_and] at hq
      refine goQ [bO .geq 3 (run_geqZ (x := k) (y := 0) (b := true) (decide_eq_true h0)), lnA ad l.length cap, bO .lss 3 (run_lssZ (x := k) (y := l.length) (b := q) hq)] (nonR w) I fun β a w1 I hb => ?_
      exact outQ (v := .bool q) I ⟨rfl, I.hJ⟩
    · rw [decide_eq_false h0, Bool.false_and] at hq
      subst hq
      refine goQ [bO .geq 3 (run_geqZ (x := k) (y := 0) (b := false) (decide_eq_false h0))] (nonR w) I fun β a w1 I hb => ?_
      exact outQ (v := .bool false) I ⟨rfl, I.hJ⟩
theorem np_any (x : Al) (w : World) : Calls Try.prog 31 #[alV x] w fun r w' => r = .returned (.bool (npP x)) ∧ Below w.heap.size w w' := by
  obtain ⟨d, n, kd, le, ri⟩ := x
  obtain ⟨q, hq⟩ : ∃ q, npP (d, n, kd, le, ri) = q := ⟨_, rfl⟩
  rw [hq]
  refine inQ (J := Below w.heap.size w) (F := (· < w.heap.size)) Try.func31 (Below.refl _ _) fun a I => ?_
  refine goQ [bO .neq 3 (run_neqZ (x := kd) (y := 0) (b := q) hq)] (nonR w) I fun β a w1 I hb => ?_
  exact outQ (v := .bool q) I ⟨rfl, I.hJ⟩
theorem few_any {w : World} (ad : Option Addr) (cap : Nat) (l : List Al) : Calls Try.prog 7 #[.slice ad l.length cap] w fun r w' => r = .returned (.bool (decide (l.length ≤ 60))) ∧ Below w.heap.size w w' := by
  obtain ⟨q, hq⟩ : ∃ q, decide (l.length ≤ 60) = q := ⟨_, rfl⟩
  rw [hq]
  refine inQ (J := Below w.heap.size w) (F := (· < w.heap.size)) Try.func7 (Below.refl _ _) fun a I => ?_
  refine goQ [lnA ad l.length cap, bO .leq 3 (run_leqZ (x := l.length) (y := 60) (b := q) (by rw [← hq]; congr 1; apply propext; omega))] (nonR w) I fun β a w1 I hb => ?_
  exact outQ (v := .bool q) I ⟨rfl, I.hJ⟩
/-- Whether one is plain and goes to so and so: the closure. -/
theorem isTo_any {w : World} {g : Nat} {d : ByteArray} (x : Al) (hg : HasRow w g #[.string d]) : Calls Try.prog 39 #[alV x, ptr0 g] w fun r w' => r = .returned (.bool (plP d x)) ∧ Below w.heap.size w w' := by
  have hnp := fun (w' : World) => np_any x w'
  obtain ⟨e, n, kd, le, ri⟩ := x
  have hl1 : ∀ w', Below w.heap.size w w' → (loadVar 9 ⟨g, 0, none⟩).run Try.prog w' = .ok (.string d) w' := fun w' hb => load1 (o := 0) (cs := [.string d]) (fun j u hu => by rw [(hg.below hb).cell]; simpa using hu) 0 rfl 9 Try.underlying9 rfl
  refine inQ (J := Below w.heap.size w) (F := (· < w.heap.size)) Try.func39 (Below.refl _ _) fun a I => ?_
  unfold plP
  by_cases hk : kd = 0
  · have e1 : npP (e, n, kd, le, ri) = false := decide_eq_false (fun h => h hk)
    rw [e1] at hnp
    obtain ⟨q, hq⟩ : ∃ q, decide (e = d) = q := ⟨_, rfl⟩
    simp only []
    rw [decide_eq_true hk, hq, Bool.true_and]
    refine goT (T := Below w.heap.size w) [cA Try.func31 (fun w' _ => hnp w'), ntO false, ldA 9 hl1, bO .eql 9 (eqT_run hq)] (nonR w) (fun _ h => h) I fun β a w1 I hb => ?_
    exact outQ (v := .bool q) I ⟨rfl, I.hJ⟩
  · have e1 : npP (e, n, kd, le, ri) = true := decide_eq_true hk
    rw [e1] at hnp
    simp only []
    rw [decide_eq_false hk, Bool.false_and]
    refine goT (T := Below w.heap.size w) [cA Try.func31 (fun w' _ => hnp w'), ntO true] (nonR w) (fun _ h => h) I fun β a w1 I hb => ?_
    exact outQ (v := .bool false) I ⟨rfl, I.hJ⟩
abbrev xfK : List Nat := [0, 1, 4, 6, 7, 8]
abbrev xfV (v f : Value) (n i : Nat) : Vs := frm 19 [(0, Sum.inl v), (1, Sum.inl f), (4, Sum.inl (Z 0)), (6, Sum.inl v), (7, Sum.inl (Z n)), (8, Sum.inl (Z i))]
/-- slices.IndexFunc, by a function that is told by its values. -/
theorem index_any {w : World} {v : Value} {l : List Al} (h : AlI w v l) (hl : l.length < 1000000000) (p : Al → Bool) (f : Nat) {fn : Func} (hf : Try.prog.funcs[f]? = some fn) (hb : fn.body.isNone = false) (hn : (fn.name == "runtime.NumGoroutine") = false) (cs : List Value)
    (hp : ∀ w', Below w.heap.size w w' → ∀ x, Calls Try.prog f (([Sum.inl (alV x)] ++ cs.map Sum.inl : List SV).map (up fun _ => 0)).toArray w' fun r w'' => r = .returned (.bool (p x)) ∧ Below w'.heap.size w' w'') :
    Calls Try.prog 38 #[v, .func (.func f) #[] cs.toArray] w fun r w' => r = .returned (Z (ixZ p l)) ∧ Below w.heap.size w w' := by
  obtain ⟨ad, cap, rfl, hm⟩ := h
  refine inQ (J := Below w.heap.size w) (F := (· < w.heap.size)) Try.func38 (Below.refl _ _) fun a I => ?_
  refine goQ [lnA ad l.length cap] (nonR w) I fun β a w1 I hb1 => ?_
  refine lpM (bodyL Try.f38) (fun k a w' => ∃ (i : Nat) (β : Nat → Nat) (u : Nat → Value), k = l.length - i ∧ i ≤ l.length ∧ (∀ j x, j < i → l[j]? = some x → p x = false) ∧ SI (Below w.heap.size w) (· < w.heap.size) [] β (cfC (bodyL Try.f38) (fillF (scrF 19 xfK) u 0 (xfV (.slice ad l.length cap) (.func (.func f) #[] cs.toArray) l.length i)) [] 0) a w') l.length ?_ ?_
  · obtain ⟨u, Iu⟩ := I.scr (bodyL Try.f38) (scrF 19 xfK) (xfV (.slice ad l.length cap) (.func (.func f) #[] cs.toArray) l.length 0) [] 0
    exact ⟨0, β, u, by omega, Nat.zero_le _, fun j x h => absurd h (Nat.not_lt_zero j), Iu⟩
  rintro k a3 w3 ⟨i, β3, u, rfl, hi, hok, I⟩
  refine wp_cfC (tm := fillF (scrF 19 xfK) u 0 (xfV (.slice ad l.length cap) (.func (.func f) #[] cs.toArray) l.length i)) (rows := []) (nx := 0) ?_
  rcases Nat.lt_or_ge i l.length with hil | hil
  · obtain ⟨x, k1⟩ : ∃ t, l[i]? = some t := ⟨_, List.getElem?_eq_getElem hil⟩
    obtain ⟨g, off, cs', rfl, hlt, hca, rfl, _⟩ := hm i _ k1
    have hld : ∀ w', Below w.heap.size w w' → (loadVar 39 ⟨g, off + i * 8, none⟩).run Try.prog w' = .ok (alV x) w' := fun w' hb => loadAl (hca.keep (hb.block g hlt))
    have hp1 := fun (w' : World) (hb : Below w.heap.size w w') => hp w' hb x
    refine goQ [lT i l.length (by omega)] (nonR w) I fun β4 a4 w4 I hb4 => ?_
    refine inY I fun I => ?_
    refine goT (T := Below w.heap.size w) [ixA g off l.length cap i hil, ldA 39 hld] (nonR w) (fun _ h => h) I fun β5 a5 w5 I hb5 => ?_
    have hp2 := hp1 w5 I.hJ
    have e0 : ([Sum.inl (alV x)] ++ cs.map Sum.inl : List SV).map (up fun _ => 0) = ([Sum.inl (alV x)] ++ cs.map Sum.inl : List SV).map (up β5) := by
      simp [up]
    rw [e0] at hp2
    cases hq : p x with
    | false =>
      rw [hq] at hp2
      refine bcallX (f := f) ([Sum.inl (alV x)] ++ cs.map Sum.inl) hf (nonR w) I (fun v => v = .bool false) (hp2.mono fun e w' he => ⟨he.2, _, he.1, rfl⟩) (fun v w6 hv I => ?_) (by kernel_rfl) hb hn
      subst hv
      refine goQ [p1 i (by omega)] (nonR w) I fun β7 a7 w7 I hb7 => ?_
      obtain ⟨u', Iu⟩ := I.scr (bodyL Try.f38) (scrF 19 xfK) (xfV (.slice (some ⟨g, off, none⟩) l.length cap) (.func (.func f) #[] cs.toArray) l.length (i + 1)) [] 0
      refine endL ⟨l.length - (i + 1), by omega, i + 1, β7, u', rfl, hil, fun j y hj hy => ?_, Iu⟩
      rcases Nat.lt_or_ge j i with hji | hji
      · exact hok j y hji hy
      · obtain rfl : j = i := by omega
        rw [k1] at hy; cases hy; exact hq
    | true =>
      rw [hq] at hp2
      refine bcallX (f := f) ([Sum.inl (alV x)] ++ cs.map Sum.inl) hf (nonR w) I (fun v => v = .bool true) (hp2.mono fun e w' he => ⟨he.2, _, he.1, rfl⟩) (fun v w6 hv I => ?_) (by kernel_rfl) hb hn
      subst hv
      refine goQ [] (nonR w) I fun β7 a7 w7 I hb7 => ?_
      refine endR (retV (v := Z i) I ⟨?_, I.hJ⟩)
      have e := ix_is p l i x k1 hq hok
      unfold ixZ
      rw [e, if_pos hil]
  · obtain rfl : i = l.length := by omega
    refine goQ [lF l.length l.length (by omega)] (nonR w) I fun β4 a4 w4 I hb4 => ?_
    refine endE 0 ?_
    refine goQ [] (nonR w) (I.exit _) fun β5 a5 w5 I hb5 => ?_
    refine outQ (v := Z (-1)) I ⟨?_, I.hJ⟩
    have e := ix_none p l fun x hx => by
      obtain ⟨j, hj⟩ := List.mem_iff_getElem?.1 hx
      exact hok j x (List.getElem?_eq_some_iff.1 hj).1 hj
    unfold ixZ
    rw [e, if_neg (by omega)]
/-- The program's place of a destination. -/
theorem plainOf_any {w : World} {v : Value} {l : List Al} (h : AlI w v l) (hl : l.length < 1000000000) (d : ByteArray) : Calls Try.prog 20 #[v, .string d] w fun r w' => r = .returned (Z (ixZ (plP d) l)) ∧ Below w.heap.size w w' := by
  have hi := fun (g : Nat) (w' : World) (hb : Below w.heap.size w w') (hr : HasRow w' g #[.string d]) => index_any (h.below C8.loc hb) hl (plP d) 39 Try.func39 (by kernel_rfl) (by kernel_rfl) [ptr0 g] (fun w'' hb' x => isTo_any x (hr.below hb'))
  obtain ⟨ad, cap, rfl⟩ := h.slice
  refine inQ (J := Below w.heap.size w) (F := (· < w.heap.size)) Try.func20 (Below.refl _ _) fun a I => ?_
  refine goQ [] (nonR w) I fun β a w1 I hb => ?_
  refine mkfX (fn := .func 39) (ss := [Sum.inr (0, 0)]) I ?_
  have I2 := I.same (.func (.func 39) #[] ([Sum.inr (0, 0)].map (up β) : List Value).toArray)
  obtain ⟨g, hg⟩ : ∃ g, β 0 = g := ⟨_, rfl⟩
  have hr : HasRow w1 g #[.string d] := I.rowG 0 hg
  have e0 : (([Sum.inr (0, 0)] : List SV).map (up β)).toArray = #[ptr0 g] := by rw [← hg]; rfl
  rw [e0] at I2 ⊢
  refine mcall (f := 38) (ss := [Sum.inl (.slice ad l.length cap), Sum.inl (.func (.func 39) #[] #[ptr0 g])]) Try.func38 I2 ((hi g w1 I.hJ hr).mono fun e w3 he => ?_)
  obtain ⟨rfl, hb3⟩ := he
  refine goQ [] (nonR w) (I2.moved (Grow.of_below hb3) ((nonR w).loc _ _ I2.hJ (Grow.of_below hb3)) (fun _ _ h => h) (Z (ixZ (plP d) l))) fun β3 a3 w3 I3 hb3 => ?_
  exact outQ (v := Z (ixZ (plP d) l)) I3 ⟨rfl, I3.hJ⟩
theorem contains_any {w : World} {v : Value} {l : List Al} (h : AlI w v l) (hl : l.length < 1000000000) : Calls Try.prog 36 #[v, .func (.func 31) #[] #[]] w fun r w' => r = .returned (.bool (l.any npP)) ∧ Below w.heap.size w w' := by
  have hi := fun (w' : World) (hb : Below w.heap.size w w') => index_any (h.below C8.loc hb) hl npP 31 Try.func31 (by kernel_rfl) (by kernel_rfl) [] (fun w'' hb' x => np_any x w'')
  have hq := ix_any npP l
  obtain ⟨ad, cap, rfl⟩ := h.slice
  generalize l.any npP = q at *
  generalize ixZ npP l = z at *
  refine inQ (J := Below w.heap.size w) (F := (· < w.heap.size)) Try.func36 (Below.refl _ _) fun a I => ?_
  refine goT (T := Below w.heap.size w) [cA Try.func38 hi, bO .geq 3 (run_geqZ (x := z) (y := 0) (b := q) hq)] (nonR w) (fun _ h => h) I fun β a w1 I hb => ?_
  exact outQ (v := .bool q) I ⟨rfl, I.hJ⟩
end Go.Proofs.Ytdiblfgnnliifaa
