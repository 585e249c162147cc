/- The document's accounts in which one has another amount. -/
import Derived.Test.YtpjplicioidknaaJl
import Derived.Test.YtpjplicioidknaaJe
namespace Go.Proofs.Ytpjplicioidknaa
open Go.RowKit Go.Sort
set_option linter.unusedVariables false
set_option maxRecDepth 100000
theorem SI.chg {J J' : World → Prop} {F F' : Nat → Prop} {ds : List Deferred} {β : Nat → Nat} {c : Cf} {a : Act} {w : World} (I : SI J F ds β c a w) (h : J' w) (hF : ∀ k, F' k → F k) : SI J' F' ds β c a w := ⟨I.fr, I.df, h, I.row, fun p hp hk => I.dis p hp (hF _ hk), I.lt, I.inj, I.ids⟩
theorem one_co (x : Co) : ∀ u ∈ co6 x, u.oneCell' = true := fun u hu => by
  unfold co6 at hu
  simp only [List.mem_cons, List.not_mem_nil, or_false] at hu
  rcases hu with rfl | rfl | rfl | rfl | rfl | rfl <;> rfl
theorem app_co {w : World} {m cap : Nat} {ad : Option Addr} {X : List (List Value)} {out : List Co} {K : Nat → Prop} {ds : List Deferred} {β : Nat → Nat} {c : Cf} {a : Act} {w6 : World} {Q : Exit → Act → World → Prop} (I : SI (QJ C6 w 41 6 (.slice ad m cap) X out K) (QF w (.slice ad m cap) K) ds β c a w6) (hXi : X.length = m) (hm : m < 100000000) (x : Co) (hx : x.2.2 < W)
    (k : ∀ ad8 cap8 K8 a8 w8, SI (QJ C6 w 41 6 (.slice ad8 (m + 1) cap8) (X ++ [co6 x]) (out ++ [x]) K8) (QF w (.slice ad8 (m + 1) cap8) K8) ds β (nxtQ (nxtQ c (.slice (some ⟨w6.heap.size, 0, none⟩) 1 1)) (.slice ad8 (m + 1) cap8)) a8 w8 → At Try.prog Q (nxtQ (nxtQ c (.slice (some ⟨w6.heap.size, 0, none⟩) 1 1)) (.slice ad8 (m + 1) cap8)) a8 w8)
    (hc1 : bsQ c = some (22, 1, [(0, Sum.inl (coV x))]) := by kernel_rfl)
    (hc2 : bltQ (nxtQ c (.slice (some ⟨w6.heap.size, 0, none⟩) 1 1)) = some (.append, #[22, 22], 22, [Sum.inl (.slice ad m cap), Sum.inl (.slice (some ⟨w6.heap.size, 0, none⟩) 1 1)]) := by kernel_rfl) : At Try.prog Q c a w6 :=
  app_gen C6.loc Try.underlying22 hI41 rfl (by decide) (by decide) (K1 := noK) (x := x) (bs22_1 x w6) rfl (one_co x) (I.chg ⟨I.hJ, fun _ h => h.elim, rfl, hx⟩ fun k h => h.elim id fun h => h.elim) hXi hm (fun _ h => h.elim) (fun ad8 cap8 a8 w8 I8 => k ad8 cap8 _ a8 w8 I8) hc1 hc2
/-- One step, and all steps. -/
def wst (k : Kk) (c : Co) (s : List Co × Bool) (d : Co) : List Co × Bool :=
  if ky d = k then (if s.2 = false ∧ ltK (ky d) k = false then (s.1 ++ [c], true) else s)
  else ((if s.2 = false ∧ ltK (ky d) k = false then (s.1 ++ [c], true) else s).1 ++ [d], (if s.2 = false ∧ ltK (ky d) k = false then (s.1 ++ [c], true) else s).2)
theorem wst_A {k : Kk} {c : Co} : ∀ {A : List Co} (o : List Co) (b : Bool), (∀ a ∈ A, ltK (ky a) k = true) → A.foldl (wst k c) (o, b) = (o ++ A, b)
  | [], o, b, _ => by simp
  | a :: A, o, b, h => by
    have h1 := h a List.mem_cons_self
    have e : wst k c (o, b) a = (o ++ [a], b) := by
      unfold wst
      rw [if_neg (ltK_ne h1), if_neg (by simp [h1])]
    rw [List.foldl_cons, e, wst_A _ _ fun x hx => h x (List.mem_cons_of_mem _ hx)]
    simp
theorem wst_B {k : Kk} {c : Co} : ∀ {B : List Co} (o : List Co), (∀ b ∈ B, ltK k (ky b) = true) → B.foldl (wst k c) (o, true) = (o ++ B, true)
  | [], o, _ => by simp
  | b :: B, o, h => by
    have h1 := h b List.mem_cons_self
    have e : wst k c (o, true) b = (o ++ [b], true) := by
      unfold wst
      rw [if_neg fun e => ltK_ne h1 e.symm, if_neg (by simp)]
    rw [List.foldl_cons, e, wst_B _ fun x hx => h x (List.mem_cons_of_mem _ hx)]
    simp
theorem wst_C {k : Kk} {c : Co} {B : List Co} (o : List Co) (h : ∀ b ∈ B, ltK k (ky b) = true) : (if (B.foldl (wst k c) (o, false)).2 = false then (B.foldl (wst k c) (o, false)).1 ++ [c] else (B.foldl (wst k c) (o, false)).1) = o ++ [c] ++ B := by
  cases B with
  | nil => simp
  | cons b B =>
    have h1 := h b List.mem_cons_self
    have e : wst k c (o, false) b = (o ++ [c] ++ [b], true) := by
      unfold wst
      rw [if_neg fun e => ltK_ne h1 e.symm, if_pos ⟨rfl, ltK_asym h1⟩]
    rw [List.foldl_cons, e, wst_B _ fun x hx => h x (List.mem_cons_of_mem _ hx)]
    simp
theorem wst_all {l A B : List Co} {k : Kk} {v0 : Nat} (D : Dec l k A B v0) (n : Nat) : (if (l.foldl (wst k (k.1, k.2, n)) ([], decide (n = 0))).2 = false then (l.foldl (wst k (k.1, k.2, n)) ([], decide (n = 0))).1 ++ [(k.1, k.2, n)] else (l.foldl (wst k (k.1, k.2, n)) ([], decide (n = 0))).1) = A ++ own k n ++ B := by
  rw [D.eq, List.foldl_append, List.foldl_append, wst_A _ _ D.lo, List.nil_append]
  by_cases hn : n = 0
  · subst hn
    have e : (own k v0).foldl (wst k (k.1, k.2, 0)) (A, decide (0 = 0)) = (A, true) := by
      by_cases hv : v0 = 0
      · subst hv; rfl
      · rw [own_pos hv, List.foldl_cons, List.foldl_nil]
        unfold wst
        rw [if_pos (show ky (k.1, k.2, v0) = k from rfl), if_neg (by simp)]
        rfl
    rw [e, wst_B _ D.hi, own_zero]
    simp
  · rw [decide_eq_false hn, own_pos hn]
    by_cases hv : v0 = 0
    · subst hv
      exact wst_C A D.hi
    · have e : (own k v0).foldl (wst k (k.1, k.2, n)) (A, false) = (A ++ [(k.1, k.2, n)], true) := by
        rw [own_pos hv, List.foldl_cons, List.foldl_nil]
        unfold wst
        rw [if_pos (show ky (k.1, k.2, v0) = k from rfl), if_pos ⟨rfl, ltK_irr k⟩]
      rw [e, wst_B _ D.hi]
      simp
theorem wst_len {k : Kk} {c : Co} : ∀ (l : List Co) (s : List Co × Bool), (l.foldl (wst k c) s).1.length ≤ s.1.length + 2 * l.length
  | [], s => by simp
  | d :: l, s => by
    rw [List.foldl_cons]
    refine Nat.le_trans (wst_len l _) ?_
    have : (wst k c s d).1.length ≤ s.1.length + 2 := by
      unfold wst
      split <;> split <;> simp
    rw [List.length_cons]
    omega
abbrev wiK : List Nat := [0, 3, 4, 5, 6, 7]
abbrev wiV (v o : Value) (b : Bool) (i : Nat) : Vs := frm 68 [(0, Sum.inl v), (3, Sum.inr (0, 0)), (4, Sum.inl (.slice none 0 0)), (5, Sum.inl o), (6, Sum.inl (.bool b)), (7, Sum.inl (Z i))]
theorem fold_take {α β : Type} (f : β → α → β) (s : β) (l : List α) {i : Nat} {x : α} (h : l[i]? = some x) : (l.take (i + 1)).foldl f s = f ((l.take i).foldl f s) x := by
  rw [List.take_add_one, h, List.foldl_append]
  rfl
set_option maxHeartbeats 8000000 in
theorem rwith_any {w : World} {x y : ByteArray} {n : Nat} {v : Value} {l A B : List Co} {v0 : Nat} (h : CoI w v l) (hl : l.length ≤ 1000) (D : Dec l (x, y) A B v0) (hn : n < W) : Calls Try.prog 33 #[v, coV (x, y, n)] w fun e w' => ∃ v' K1, e = .returned v' ∧ FJ w K1 v' (A ++ own (x, y) n ++ B) w' := by
  have hall := wst_all D n
  obtain ⟨ad, cap, rfl, hm⟩ := h
  have hfin : ∀ {v' : Value} {X : List (List Value)} {out : List Co} {K : Nat → Prop} {w' : World}, QJ C6 w 41 6 v' X out K w' → ∃ K1, FJ w K1 v' out w' := fun {v' X out K w'} hq => ⟨_, hq.below, hq.kb2, hq.done C6.loc, by
    rcases hq.ro.own.2 with ⟨he, _⟩ | ⟨g, cap', cur, he, _, _, hnc, _⟩
    · rw [he]; exact Nat.le_refl _
    · rw [he]; exact hnc⟩
  obtain ⟨b0, hb0⟩ : ∃ b, decide (n = 0) = b := ⟨_, rfl⟩
  rw [hb0] at hall
  refine inQ (J := QJ C6 w 41 6 (.slice none 0 0) [] [] noK) (F := QF w (.slice none 0 0) noK) Try.func33 (QJ.start C6 w 41 6) fun a I => ?_
  refine goQ [dO 27 [] bd_Uz, bO .eql 27 (eqU_run hn W_pos hb0)] (QJ.rs C6.loc w 41 6 (.slice none 0 0) [] [] noK) I fun β a w1 I hb => ?_
  let St : Nat → Act → World → Prop := fun k a w' => ∃ (i m : Nat) (β : Nat → Nat) (u : Nat → Value) (ad' : Option Addr) (cap' : Nat) (X : List (List Value)) (out : List Co) (b : Bool) (K : Nat → Prop), k = l.length - i ∧ i ≤ l.length ∧ (l.take i).foldl (wst (x, y) (x, y, n)) ([], b0) = (out, b) ∧ X.length = m ∧
    SI (QJ C6 w 41 6 (.slice ad' m cap') X out K) (QF w (.slice ad' m cap') K) [] β (cfC (bodyL Try.f33) (fillF (scrF 68 wiK) u 0 (wiV (.slice ad l.length cap) (.slice ad' m cap') b i)) [(0, (co6 (x, y, n)).toArray)] 1) a w'
  refine lpM (bodyL Try.f33) St l.length ?_ ?_
  · obtain ⟨u, Iu⟩ := I.scr (bodyL Try.f33) (scrF 68 wiK) (wiV (.slice ad l.length cap) (.slice none 0 0) b0 0) [(0, (co6 (x, y, n)).toArray)] 1
    exact ⟨0, 0, β, u, none, 0, [], [], b0, noK, by omega, Nat.zero_le _, rfl, rfl, Iu⟩
  rintro k a3 w3 ⟨i, m, β3, u, ad', cap', X, out, b, K, rfl, hi, hfo, hXm, I⟩
  have hml : m ≤ 2000 := by
    have h1 := wst_len (k := (x, y)) (c := (x, y, n)) (l.take i) ([], b0)
    rw [hfo] at h1
    have h2 := I.hJ.len
    simp only [List.length_nil, List.length_take] at h1
    omega
  refine wp_cfC (tm := fillF (scrF 68 wiK) u 0 (wiV (.slice ad l.length cap) (.slice ad' m cap') b i)) (rows := [(0, (co6 (x, y, n)).toArray)]) (nx := 1) ?_
  rcases Nat.lt_or_ge i l.length with hil | hil
  · obtain ⟨c, h1⟩ : ∃ t, l[i]? = some t := ⟨_, List.getElem?_eq_getElem hil⟩
    obtain ⟨g, off, cs, rfl, hlt, hca, rfl, ham⟩ := hm i _ h1
    have hlW : ∀ w', Below w.heap.size w w' → (loadVar 9 ⟨g, off + i * 6 + 0, none⟩).run Try.prog w' = .ok (.string c.1) w' := fun w' hb => loadW (hca.keep (hb.block g hlt))
    have hlA : ∀ w', Below w.heap.size w w' → (loadVar 9 ⟨g, off + i * 6 + 1, none⟩).run Try.prog w' = .ok (.string c.2.1) w' := fun w' hb => loadA (hca.keep (hb.block g hlt))
    have hld : ∀ w', Below w.heap.size w w' → (loadVar 41 ⟨g, off + i * 6, none⟩).run Try.prog w' = .ok (coV c) w' := fun w' hb => loadCo (hca.keep (hb.block g hlt))
    have hB := before_any c x y
    have hfs := fold_take (wst (x, y) (x, y, n)) ([], b0) l h1
    rw [hfo] at hfs
    have hRs := QJ.rs C6.loc w 41 6 (.slice ad' m cap') X out K
    refine goQ [lnC (some ⟨g, off, none⟩) l.length cap, lT i l.length (by omega)] hRs I fun β4 a4 w4 I hb4 => ?_

    cases b with
    | true =>
      refine dwT (T := QJ C6 w 41 6 (.slice ad' m cap') X out K) 14 [ntO true] hRs (fun _ h => h) (PanOk.then (PanOk.qk PanOk.post)) I fun a5 w5 I => ?_
      refine goQ [] hRs I fun β6 a6 w6 I hb6 => ?_
      by_cases kw : ¬ c.1 = x
      · have hst : wst (x, y) (x, y, n) (out, true) c = (out ++ [c], true) := by unfold wst; rw [if_neg (fun e => kw (congrArg Prod.fst e)), if_neg (by simp)]
        refine dwT (T := QJ C6 w 41 6 (.slice ad' m cap') X out K) 18 [ixC g off l.length cap i hil, ldA 9 (fun w' h => hlW w' h.below), bO .neq 9 (neqT_run (a := c.1) (b := x) (q := true) (decide_eq_true kw))] hRs (fun _ h => h) (PanOk.then (PanOk.qk PanOk.post)) I fun a7 w7 I => ?_
        refine goT (T := QJ C6 w 41 6 (.slice ad' m cap') X out K) [ixC g off l.length cap i hil, ldA 41 (fun w' h => hld w' h.below)] hRs (fun _ h => h) I fun β8 a8 w8 I hb8 => ?_
        refine app_co I hXm (by omega) c ham fun ad9 cap9 K9 a9 w9 I => ?_
        refine goQ [p1 i (by omega)] (QJ.rs C6.loc w 41 6 _ _ _ _) I fun β10 a10 w10 I hb10 => ?_
        obtain ⟨u', Iu⟩ := I.scr (bodyL Try.f33) (scrF 68 wiK) (wiV (.slice (some ⟨g, off, none⟩) l.length cap) (.slice ad9 (m + 1) cap9) true (i + 1)) [(0, (co6 (x, y, n)).toArray)] 1
        exact endL ⟨l.length - (i + 1), by omega, i + 1, m + 1, _, u', ad9, cap9, X ++ [co6 c], out ++ [c], true, K9, rfl, hil, by rw [hfs, hst], by rw [List.length_append, hXm]; rfl, Iu⟩
      have kw := Classical.not_not.1 kw
      by_cases ka : ¬ c.2.1 = y
      · have hst : wst (x, y) (x, y, n) (out, true) c = (out ++ [c], true) := by unfold wst; rw [if_neg (fun e => ka (congrArg Prod.snd e)), if_neg (by simp)]
        refine dwT (T := QJ C6 w 41 6 (.slice ad' m cap') X out K) 18 [ixC g off l.length cap i hil, ldA 9 (fun w' h => hlW w' h.below), bO .neq 9 (neqT_run (a := c.1) (b := x) (q := false) (decide_eq_false (not_not_intro kw))), ixC g off l.length cap i hil, ldA 9 (fun w' h => hlA w' h.below), bO .neq 9 (neqT_run (a := c.2.1) (b := y) (q := true) (decide_eq_true ka))] hRs (fun _ h => h) (PanOk.then (PanOk.qk PanOk.post)) I fun a7 w7 I => ?_
        refine goT (T := QJ C6 w 41 6 (.slice ad' m cap') X out K) [ixC g off l.length cap i hil, ldA 41 (fun w' h => hld w' h.below)] hRs (fun _ h => h) I fun β8 a8 w8 I hb8 => ?_
        refine app_co I hXm (by omega) c ham fun ad9 cap9 K9 a9 w9 I => ?_
        refine goQ [p1 i (by omega)] (QJ.rs C6.loc w 41 6 _ _ _ _) I fun β10 a10 w10 I hb10 => ?_
        obtain ⟨u', Iu⟩ := I.scr (bodyL Try.f33) (scrF 68 wiK) (wiV (.slice (some ⟨g, off, none⟩) l.length cap) (.slice ad9 (m + 1) cap9) true (i + 1)) [(0, (co6 (x, y, n)).toArray)] 1
        exact endL ⟨l.length - (i + 1), by omega, i + 1, m + 1, _, u', ad9, cap9, X ++ [co6 c], out ++ [c], true, K9, rfl, hil, by rw [hfs, hst], by rw [List.length_append, hXm]; rfl, Iu⟩
      have ka := Classical.not_not.1 ka
      have hst : wst (x, y) (x, y, n) (out, true) c = (out, true) := by unfold wst; rw [if_pos (Prod.ext kw ka), if_neg (by simp)]
      refine dwT (T := QJ C6 w 41 6 (.slice ad' m cap') X out K) 18 [ixC g off l.length cap i hil, ldA 9 (fun w' h => hlW w' h.below), bO .neq 9 (neqT_run (a := c.1) (b := x) (q := false) (decide_eq_false (not_not_intro kw))), ixC g off l.length cap i hil, ldA 9 (fun w' h => hlA w' h.below), bO .neq 9 (neqT_run (a := c.2.1) (b := y) (q := false) (decide_eq_false (not_not_intro ka)))] hRs (fun _ h => h) (PanOk.then (PanOk.qk PanOk.post)) I fun a7 w7 I => ?_
      refine goQ [p1 i (by omega)] hRs I fun β8 a8 w8 I hb8 => ?_
      obtain ⟨u', Iu⟩ := I.scr (bodyL Try.f33) (scrF 68 wiK) (wiV (.slice (some ⟨g, off, none⟩) l.length cap) (.slice ad' m cap') true (i + 1)) [(0, (co6 (x, y, n)).toArray)] 1
      exact endL ⟨l.length - (i + 1), by omega, i + 1, m, _, u', ad', cap', X, out, true, K, rfl, hil, by rw [hfs, hst], hXm, Iu⟩
    | false =>
      cases hq : ltK (ky c) (x, y) with
      | true =>
        rw [hq] at hB
        refine dwT (T := QJ C6 w 41 6 (.slice ad' m cap') X out K) 14 [ntO false, ixC g off l.length cap i hil, ldA 41 (fun w' h => hld w' h.below), kC Try.func27 hB, ntO true] hRs (fun _ h => h) (PanOk.then (PanOk.qk PanOk.post)) I fun a5 w5 I => ?_
        refine goQ [] hRs I fun β6 a6 w6 I hb6 => ?_
        by_cases kw : ¬ c.1 = x
        · have hst : wst (x, y) (x, y, n) (out, false) c = (out ++ [c], false) := by unfold wst; rw [if_neg (fun e => kw (congrArg Prod.fst e)), if_neg (by simp [hq])]
          refine dwT (T := QJ C6 w 41 6 (.slice ad' m cap') X out K) 18 [ixC g off l.length cap i hil, ldA 9 (fun w' h => hlW w' h.below), bO .neq 9 (neqT_run (a := c.1) (b := x) (q := true) (decide_eq_true kw))] hRs (fun _ h => h) (PanOk.then (PanOk.qk PanOk.post)) I fun a7 w7 I => ?_
          refine goT (T := QJ C6 w 41 6 (.slice ad' m cap') X out K) [ixC g off l.length cap i hil, ldA 41 (fun w' h => hld w' h.below)] hRs (fun _ h => h) I fun β8 a8 w8 I hb8 => ?_
          refine app_co I hXm (by omega) c ham fun ad9 cap9 K9 a9 w9 I => ?_
          refine goQ [p1 i (by omega)] (QJ.rs C6.loc w 41 6 _ _ _ _) I fun β10 a10 w10 I hb10 => ?_
          obtain ⟨u', Iu⟩ := I.scr (bodyL Try.f33) (scrF 68 wiK) (wiV (.slice (some ⟨g, off, none⟩) l.length cap) (.slice ad9 (m + 1) cap9) false (i + 1)) [(0, (co6 (x, y, n)).toArray)] 1
          exact endL ⟨l.length - (i + 1), by omega, i + 1, m + 1, _, u', ad9, cap9, X ++ [co6 c], out ++ [c], false, K9, rfl, hil, by rw [hfs, hst], by rw [List.length_append, hXm]; rfl, Iu⟩
        have kw := Classical.not_not.1 kw
        by_cases ka : ¬ c.2.1 = y
        · have hst : wst (x, y) (x, y, n) (out, false) c = (out ++ [c], false) := by unfold wst; rw [if_neg (fun e => ka (congrArg Prod.snd e)), if_neg (by simp [hq])]
          refine dwT (T := QJ C6 w 41 6 (.slice ad' m cap') X out K) 18 [ixC g off l.length cap i hil, ldA 9 (fun w' h => hlW w' h.below), bO .neq 9 (neqT_run (a := c.1) (b := x) (q := false) (decide_eq_false (not_not_intro kw))), ixC g off l.length cap i hil, ldA 9 (fun w' h => hlA w' h.below), bO .neq 9 (neqT_run (a := c.2.1) (b := y) (q := true) (decide_eq_true ka))] hRs (fun _ h => h) (PanOk.then (PanOk.qk PanOk.post)) I fun a7 w7 I => ?_
          refine goT (T := QJ C6 w 41 6 (.slice ad' m cap') X out K) [ixC g off l.length cap i hil, ldA 41 (fun w' h => hld w' h.below)] hRs (fun _ h => h) I fun β8 a8 w8 I hb8 => ?_
          refine app_co I hXm (by omega) c ham fun ad9 cap9 K9 a9 w9 I => ?_
          refine goQ [p1 i (by omega)] (QJ.rs C6.loc w 41 6 _ _ _ _) I fun β10 a10 w10 I hb10 => ?_
          obtain ⟨u', Iu⟩ := I.scr (bodyL Try.f33) (scrF 68 wiK) (wiV (.slice (some ⟨g, off, none⟩) l.length cap) (.slice ad9 (m + 1) cap9) false (i + 1)) [(0, (co6 (x, y, n)).toArray)] 1
          exact endL ⟨l.length - (i + 1), by omega, i + 1, m + 1, _, u', ad9, cap9, X ++ [co6 c], out ++ [c], false, K9, rfl, hil, by rw [hfs, hst], by rw [List.length_append, hXm]; rfl, Iu⟩
        have ka := Classical.not_not.1 ka
        have hst : wst (x, y) (x, y, n) (out, false) c = (out, false) := by unfold wst; rw [if_pos (Prod.ext kw ka), if_neg (by simp [hq])]
        refine dwT (T := QJ C6 w 41 6 (.slice ad' m cap') X out K) 18 [ixC g off l.length cap i hil, ldA 9 (fun w' h => hlW w' h.below), bO .neq 9 (neqT_run (a := c.1) (b := x) (q := false) (decide_eq_false (not_not_intro kw))), ixC g off l.length cap i hil, ldA 9 (fun w' h => hlA w' h.below), bO .neq 9 (neqT_run (a := c.2.1) (b := y) (q := false) (decide_eq_false (not_not_intro ka)))] hRs (fun _ h => h) (PanOk.then (PanOk.qk PanOk.post)) I fun a7 w7 I => ?_
        refine goQ [p1 i (by omega)] hRs I fun β8 a8 w8 I hb8 => ?_
        obtain ⟨u', Iu⟩ := I.scr (bodyL Try.f33) (scrF 68 wiK) (wiV (.slice (some ⟨g, off, none⟩) l.length cap) (.slice ad' m cap') false (i + 1)) [(0, (co6 (x, y, n)).toArray)] 1
        exact endL ⟨l.length - (i + 1), by omega, i + 1, m, _, u', ad', cap', X, out, false, K, rfl, hil, by rw [hfs, hst], hXm, Iu⟩
      | false =>
        rw [hq] at hB
        refine dwT (T := QJ C6 w 41 6 (.slice ad' m cap') X out K) 14 [ntO false, ixC g off l.length cap i hil, ldA 41 (fun w' h => hld w' h.below), kC Try.func27 hB, ntO false] hRs (fun _ h => h) (PanOk.then (PanOk.qk PanOk.post)) I fun a5 w5 I => ?_
        refine goQ [] hRs I fun β6 a6 w6 I hb6 => ?_
        refine app_co I hXm (by omega) (x, y, n) hn fun ad6 cap6 K6 a6 w6 I => ?_
        have hRs6 := QJ.rs C6.loc w 41 6 (.slice ad6 (m + 1) cap6) (X ++ [co6 (x, y, n)]) (out ++ [(x, y, n)]) K6
        have hXm6 : (X ++ [co6 (x, y, n)]).length = m + 1 := by rw [List.length_append, hXm]; rfl
        refine goQ [] hRs6 I fun β6 a6 w6 I hb6 => ?_
        by_cases kw : ¬ c.1 = x
        · have hst : wst (x, y) (x, y, n) (out, false) c = (out ++ [(x, y, n)] ++ [c], true) := by unfold wst; rw [if_neg (fun e => kw (congrArg Prod.fst e)), if_pos ⟨rfl, hq⟩]
          refine dwT (T := QJ C6 w 41 6 (.slice ad6 (m + 1) cap6) (X ++ [co6 (x, y, n)]) (out ++ [(x, y, n)]) K6) 18 [ixC g off l.length cap i hil, ldA 9 (fun w' h => hlW w' h.below), bO .neq 9 (neqT_run (a := c.1) (b := x) (q := true) (decide_eq_true kw))] hRs6 (fun _ h => h) (PanOk.then (PanOk.qk PanOk.post)) I fun a7 w7 I => ?_
          refine goT (T := QJ C6 w 41 6 (.slice ad6 (m + 1) cap6) (X ++ [co6 (x, y, n)]) (out ++ [(x, y, n)]) K6) [ixC g off l.length cap i hil, ldA 41 (fun w' h => hld w' h.below)] hRs6 (fun _ h => h) I fun β8 a8 w8 I hb8 => ?_
          refine app_co I hXm6 (by omega) c ham fun ad9 cap9 K9 a9 w9 I => ?_
          refine goQ [p1 i (by omega)] (QJ.rs C6.loc w 41 6 _ _ _ _) I fun β10 a10 w10 I hb10 => ?_
          obtain ⟨u', Iu⟩ := I.scr (bodyL Try.f33) (scrF 68 wiK) (wiV (.slice (some ⟨g, off, none⟩) l.length cap) (.slice ad9 ((m + 1) + 1) cap9) true (i + 1)) [(0, (co6 (x, y, n)).toArray)] 1
          exact endL ⟨l.length - (i + 1), by omega, i + 1, (m + 1) + 1, _, u', ad9, cap9, (X ++ [co6 (x, y, n)]) ++ [co6 c], (out ++ [(x, y, n)]) ++ [c], true, K9, rfl, hil, by rw [hfs, hst], by rw [List.length_append, hXm6]; rfl, Iu⟩
        have kw := Classical.not_not.1 kw
        by_cases ka : ¬ c.2.1 = y
        · have hst : wst (x, y) (x, y, n) (out, false) c = (out ++ [(x, y, n)] ++ [c], true) := by unfold wst; rw [if_neg (fun e => ka (congrArg Prod.snd e)), if_pos ⟨rfl, hq⟩]
          refine dwT (T := QJ C6 w 41 6 (.slice ad6 (m + 1) cap6) (X ++ [co6 (x, y, n)]) (out ++ [(x, y, n)]) K6) 18 [ixC g off l.length cap i hil, ldA 9 (fun w' h => hlW w' h.below), bO .neq 9 (neqT_run (a := c.1) (b := x) (q := false) (decide_eq_false (not_not_intro kw))), ixC g off l.length cap i hil, ldA 9 (fun w' h => hlA w' h.below), bO .neq 9 (neqT_run (a := c.2.1) (b := y) (q := true) (decide_eq_true ka))] hRs6 (fun _ h => h) (PanOk.then (PanOk.qk PanOk.post)) I fun a7 w7 I => ?_
          refine goT (T := QJ C6 w 41 6 (.slice ad6 (m + 1) cap6) (X ++ [co6 (x, y, n)]) (out ++ [(x, y, n)]) K6) [ixC g off l.length cap i hil, ldA 41 (fun w' h => hld w' h.below)] hRs6 (fun _ h => h) I fun β8 a8 w8 I hb8 => ?_
          refine app_co I hXm6 (by omega) c ham fun ad9 cap9 K9 a9 w9 I => ?_
          refine goQ [p1 i (by omega)] (QJ.rs C6.loc w 41 6 _ _ _ _) I fun β10 a10 w10 I hb10 => ?_
          obtain ⟨u', Iu⟩ := I.scr (bodyL Try.f33) (scrF 68 wiK) (wiV (.slice (some ⟨g, off, none⟩) l.length cap) (.slice ad9 ((m + 1) + 1) cap9) true (i + 1)) [(0, (co6 (x, y, n)).toArray)] 1
          exact endL ⟨l.length - (i + 1), by omega, i + 1, (m + 1) + 1, _, u', ad9, cap9, (X ++ [co6 (x, y, n)]) ++ [co6 c], (out ++ [(x, y, n)]) ++ [c], true, K9, rfl, hil, by rw [hfs, hst], by rw [List.length_append, hXm6]; rfl, Iu⟩
        have ka := Classical.not_not.1 ka
        have hst : wst (x, y) (x, y, n) (out, false) c = (out ++ [(x, y, n)], true) := by unfold wst; rw [if_pos (Prod.ext kw ka), if_pos ⟨rfl, hq⟩]
        refine dwT (T := QJ C6 w 41 6 (.slice ad6 (m + 1) cap6) (X ++ [co6 (x, y, n)]) (out ++ [(x, y, n)]) K6) 18 [ixC g off l.length cap i hil, ldA 9 (fun w' h => hlW w' h.below), bO .neq 9 (neqT_run (a := c.1) (b := x) (q := false) (decide_eq_false (not_not_intro kw))), ixC g off l.length cap i hil, ldA 9 (fun w' h => hlA w' h.below), bO .neq 9 (neqT_run (a := c.2.1) (b := y) (q := false) (decide_eq_false (not_not_intro ka)))] hRs6 (fun _ h => h) (PanOk.then (PanOk.qk PanOk.post)) I fun a7 w7 I => ?_
        refine goQ [p1 i (by omega)] hRs6 I fun β8 a8 w8 I hb8 => ?_
        obtain ⟨u', Iu⟩ := I.scr (bodyL Try.f33) (scrF 68 wiK) (wiV (.slice (some ⟨g, off, none⟩) l.length cap) (.slice ad6 (m + 1) cap6) true (i + 1)) [(0, (co6 (x, y, n)).toArray)] 1
        exact endL ⟨l.length - (i + 1), by omega, i + 1, (m + 1), _, u', ad6, cap6, (X ++ [co6 (x, y, n)]), (out ++ [(x, y, n)]), true, K6, rfl, hil, by rw [hfs, hst], hXm6, Iu⟩
  · obtain rfl : i = l.length := by omega
    rw [List.take_length] at hfo
    rw [hfo] at hall
    refine goQ [lnC ad l.length cap, lF l.length l.length (by omega)] (QJ.rs C6.loc w 41 6 _ _ _ _) I fun β4 a4 w4 I hb4 => ?_
    refine endE 0 ?_
    cases b with
    | true =>
      refine goQ [ntO true] (QJ.rs C6.loc w 41 6 _ _ _ _) (I.exit _) fun β5 a5 w5 I hb5 => ?_
      rw [if_neg (by simp)] at hall
      simp only [] at hall
      subst hall
      obtain ⟨K1, hj⟩ := hfin I.hJ
      exact outQ (v := .slice ad' m cap') I ⟨_, K1, rfl, hj⟩
    | false =>
      refine goQ [ntO false] (QJ.rs C6.loc w 41 6 _ _ _ _) (I.exit _) fun β5 a5 w5 I hb5 => ?_
      refine app_co I hXm (by omega) (x, y, n) hn fun ad6 cap6 K6 a6 w6 I => ?_
      refine goQ [] (QJ.rs C6.loc w 41 6 _ _ _ _) I fun β7 a7 w7 I hb7 => ?_
      rw [if_pos rfl] at hall
      simp only [] at hall
      rw [hall] at I
      obtain ⟨K1, hj⟩ := hfin I.hJ
      exact outQ (v := .slice ad6 (m + 1) cap6) I ⟨_, K1, rfl, hj⟩
end Go.Proofs.Ytpjplicioidknaa
