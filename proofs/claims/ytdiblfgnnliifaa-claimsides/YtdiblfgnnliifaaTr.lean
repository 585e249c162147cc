/- ClaimBack: what was bound, and went back by the same shares, is as before. -/
import Derived.Test.YtdiblfgnnliifaaTq
namespace Go.Proofs.Ytdiblfgnnliifaa
open Go.RowKit Go.Sort
set_option linter.unusedVariables false
set_option maxRecDepth 100000
/-- Two places are not of one destination. -/
def Dq (l : List Al) (i k : Nat) : Prop := ∀ x y, l[i]? = some x → l[k]? = some y → ¬ (x.2.2.1 = 0 ∧ y.2.2.1 = 0 ∧ x.1 = y.1)
theorem ix_app (p : Al → Bool) : ∀ (l m : List Al), ixN p l < l.length → ixN p (l ++ m) = ixN p l
  | [], m, h => by simp at h
  | x :: l, m, h => by
    show ixN p (x :: (l ++ m)) = ixN p (x :: l)
    unfold ixN
    unfold ixN at h
    by_cases hx : p x = true
    · rw [if_pos hx, if_pos hx]
    · rw [if_neg hx] at h
      rw [if_neg hx, if_neg hx, ix_app p l m (by rw [List.length_cons] at h; omega)]
theorem kd_plain {l : List Al} {i : Nat} {x : Al} (hx : l[i]? = some x) (h : kdP l i = false) : x.2.2.1 = 0 := by
  unfold kdP npP at h
  rw [Int.toNat_natCast, getD_is hx] at h
  exact Classical.not_not.1 (of_decide_eq_false h)
theorem pl_own {l : List Al} (hd : ∀ i k, k < i → Dq l i k) {i : Nat} {x : Al} (hx : l[i]? = some x) (hk : x.2.2.1 = 0) : pl l x.1 = i := by
  refine ix_is _ _ _ x hx (by unfold plP; rw [hk]; simp) fun j y hj hy => ?_
  cases hq : plP x.1 y with
  | false => rfl
  | true =>
    unfold plP at hq
    simp only [Bool.and_eq_true, decide_eq_true_eq] at hq
    exact absurd ⟨hk, hq.1, hq.2.symm⟩ (hd i j hj x y hx hy)
theorem back_pure {l : List Al} {ch : ByteArray} {a b ni nj : Nat} (hL : Lt l) (h : bdE l ch.size ni nj a b = 0) (hd : ∀ i k, k < i → Dq l i k) : rcE (bdR l ch ni nj a b) (l.length : Nat) [xS a, xS b] = 0 ∧ rcL (bdR l ch ni nj a b) (l.length : Nat) [xS a, xS b] = l := by
  obtain ⟨mi, mj, e1, e2, hi, hj, hne, h32, hki, hkj, ha, hb, hlt, hl8⟩ := bd_ok h
  obtain rfl : ni = mi := by omega
  obtain rfl : nj = mj := by omega
  obtain ⟨x, hx⟩ : ∃ t, l[ni]? = some t := ⟨_, List.getElem?_eq_getElem hi⟩
  obtain ⟨y, hy⟩ : ∃ t, l[nj]? = some t := ⟨_, List.getElem?_eq_getElem hj⟩
  have hkx := kd_plain hx hki
  have hky := kd_plain hy hkj
  have hplx := pl_own hd hx hkx
  have hply := pl_own hd hy hky
  have hm := bdR_is h
  rw [getD_is hx, getD_is hy] at hm
  have hml : (bdM l ni nj a b).length = l.length := by rw [stA_len, stA_len]
  have hlen : (bdR l ch ni nj a b).length = l.length + 1 := by rw [hm, List.length_append, hml]; rfl
  have hlast : (bdR l ch ni nj a b)[l.length]? = some (ch, a + b, 1, x.1, y.1) := by
    rw [hm, ← hml, List.getElem?_append_right (Nat.le_refl _), Nat.sub_self]; rfl
  have hp : pl (bdR l ch ni nj a b) x.1 = ni := by
    have : pl (bdM l ni nj a b) x.1 = ni := by rw [stA_pl, stA_pl]; exact hplx
    rw [hm]
    exact (ix_app _ _ _ (by rw [show ixN (plP x.1) (bdM l ni nj a b) = ni from this, hml]; exact hi)).trans this
  have hq : pl (bdR l ch ni nj a b) y.1 = nj := by
    have : pl (bdM l ni nj a b) y.1 = nj := by rw [stA_pl, stA_pl]; exact hply
    rw [hm]
    exact (ix_app _ _ _ (by rw [show ixN (plP y.1) (bdM l ni nj a b) = nj from this, hml]; exact hj)).trans this
  have hin : ∀ j, j < l.length → (bdR l ch ni nj a b)[j]? = (bdM l ni nj a b)[j]? := fun j hj2 => by rw [hm, List.getElem?_append_left (by rw [hml]; exact hj2)]
  have hat : ∀ j z, l[j]? = some z → (bdR l ch ni nj a b)[j]? = some (z.1, if j = nj then am l nj - b else if j = ni then am l ni - a else z.2.1, z.2.2) := fun j z hz => by
    have hjl := (List.getElem?_eq_some_iff.1 hz).1
    have hne2 : am (stA l ni (am l ni - a)) nj = am l nj := by rw [am_st, if_neg (fun h => hne h.1)]
    rw [hin j hjl, stA_get]
    by_cases e : nj = j
    · rw [if_pos e, if_pos e.symm, stA_other _ _ (by rw [← e]; exact hne), hz]
      rfl
    · rw [if_neg e, if_neg (fun q => e q.symm), stA_get]
      by_cases e' : ni = j
      · rw [if_pos e', if_pos e'.symm, hz]; rfl
      · rw [if_neg e', if_neg (fun q => e' q.symm), hz]
  have hami : am (bdR l ch ni nj a b) ni = am l ni - a := by
    rw [am_is (hat ni x hx)]
    show (if ni = nj then _ else if ni = ni then _ else _) = _
    rw [if_neg hne, if_pos rfl]
  have hamj : am (bdR l ch ni nj a b) nj = am l nj - b := by
    rw [am_is (hat nj y hy)]
    show (if nj = nj then _ else _) = _
    rw [if_pos rfl]
  have hWi := am_lt hL ni
  have hWj := am_lt hL nj
  have hs1 : am (stA (bdR l ch ni nj a b) ni (am (bdR l ch ni nj a b) ni + a)) nj = am l nj - b := by rw [am_st, if_neg (fun h => hne h.1), hamj]
  have hsd : sdE (bdR l ch ni nj a b) ni nj a b = 0 := by
    unfold sdE
    rw [hs1, hami, hlen, if_neg (by omega), if_neg (by omega), if_neg (by omega)]
  have hrf : rfE (bdR l ch ni nj a b) (l.length : Nat) [xS a, xS b] = 0 := by
    have hP : isP (bdR l ch ni nj a b) (l.length : Nat) = true := by
      unfold isP
      rw [hlen, decide_eq_true (by omega), decide_eq_true (by omega)]; rfl
    unfold rfE
    rw [hP, if_neg (by decide), Int.toNat_natCast, getD_is hlast, am_is hlast]
    have e0 : am [xS a, xS b] 0 = a := rfl
    have e1 : am [xS a, xS b] 1 = b := rfl
    rw [e0, e1, if_neg (by
      intro h
      rcases h with h | h | h
      · exact h rfl
      · exact h rfl
      · cases h), if_neg (by
      intro h
      rcases h with h | h
      · omega
      · exact h rfl)]
  have hE : rcE (bdR l ch ni nj a b) (l.length : Nat) [xS a, xS b] = 0 := by
    unfold rcE
    rw [if_neg (fun q => q hrf), Int.toNat_natCast]
    unfold lfD rgD
    rw [getD_is hlast]
    show sdE _ (pl _ x.1) (pl _ y.1) a b = 0
    rw [hp, hq]
    exact hsd
  refine ⟨hE, ?_⟩
  unfold rcL
  rw [if_neg (fun q => q hE), Int.toNat_natCast]
  unfold lfD rgD
  rw [getD_is hlast]
  show (sdL _ (pl _ x.1) (pl _ y.1) a b).eraseIdx l.length = l
  rw [hp, hq]
  unfold sdL
  rw [hs1, hami, show am l ni - a + a = am l ni by omega, show am l nj - b + b = am l nj by omega]
  refine List.ext_getElem? fun j => ?_
  rw [List.getElem?_eraseIdx]
  by_cases hjl : j < l.length
  · rw [if_pos hjl]
    obtain ⟨z, hz⟩ : ∃ t, l[j]? = some t := ⟨_, List.getElem?_eq_getElem hjl⟩
    rw [stA_get]
    by_cases e : nj = j
    · subst e
      rw [if_pos rfl, stA_other _ _ hne, hat nj z hz, hz, am_is hz]
      rfl
    · rw [if_neg e, stA_get]
      by_cases e' : ni = j
      · subst e'
        rw [if_pos rfl, hat ni z hz, hz, am_is hz]
        rfl
      · rw [if_neg e', hat j z hz, hz, if_neg (fun q => e q.symm), if_neg (fun q => e' q.symm)]
  · rw [if_neg hjl, List.getElem?_eq_none (by rw [stA_len, stA_len, hlen]; omega), List.getElem?_eq_none (by omega)]
def l2B (fn : Func) : Code := ((fn.body.bind loopOf).bind loopOf).getD .skip
abbrev bkK : List Nat := [0, 10, 11, 13, 37, 38, 39]
abbrev bkV (v u : Value) (n i : Nat) : Vs := frm 95 [(0, Sum.inl v), (10, Sum.inr (0, 0)), (11, Sum.inr (1, 0)), (13, Sum.inl u), (37, Sum.inl v), (38, Sum.inl (Z n)), (39, Sum.inl (Z i))]
abbrev bkK2 : List Nat := [0, 10, 11, 13, 15, 16, 37, 38, 39, 44, 45]
abbrev bkV2 (v u : Value) (n i k : Nat) : Vs := frm 95 [(0, Sum.inl v), (10, Sum.inr (0, 0)), (11, Sum.inr (1, 0)), (13, Sum.inl u), (15, Sum.inl (Z i)), (16, Sum.inr (2, 0)), (37, Sum.inl v), (38, Sum.inl (Z n)), (39, Sum.inl (Z i)), (44, Sum.inl (Z i)), (45, Sum.inl (Z k))]
theorem thN {N : Act → World → Prop} {X : Exit → Act → World → Prop} {a : Act} {w : World} (h : N a w) : Exit.then N X .normal a w := h
theorem atN {P : Program} {Q : Exit → Act → World → Prop} {c : Cf} {a : Act} {w : World} (h : Q .normal a w) (hd : c.dn = some .normal := by kernel_rfl) : At P Q c a w := ⟨by unfold AtD; rw [hd]; exact h⟩
set_option maxHeartbeats 8000000 in
theorem bk_row {w : World} {ad : Option Addr} {cap : Nat} {l L2 : List Al} (hv : AlI w (.slice ad l.length cap) l) (haw : ∀ w : World, Calls Try.prog 8 #[] w fun e w' => e = .returned (.bool true) ∧ Below w.heap.size w w') {K8 : Nat → Prop} {d3 : Option Addr} {c3 a b t : Nat} (htl : t < l.length) (h60 : l.length ≤ 60) {Q : Exit → Act → World → Prop} (hpan : PanOk Q) (hret : ∀ a' w', bodyPost Try.prog Try.f5 (fun e w' => e = .returned (.bool true) ∧ Below w.heap.size w w') .ret a' w' → Q .ret a' w')
  (hnx : ∀ a' w' (β : Nat → Nat) (u : Nat → Value), (∀ q, q < t → Dq l t q) → SI (GS w w w.heap.size noK K8 ([alF (.slice d3 L2.length c3) L2] ++ [alF (.slice ad l.length cap) l]) []) (GF noK K8 []) [] β (cfC (bodyL Try.f5) (fillF (scrF 95 bkK) u 0 (bkV (.slice ad l.length cap) (.slice d3 L2.length c3) l.length (t + 1))) [(0, rU a), (1, rU b)] 2) a' w' → Q .normal a' w')
  {β1 : Nat → Nat} {u1 : Nat → Value} {a1 : Act} {w1 : World} (I : SI (GS w w w.heap.size noK K8 ([alF (.slice d3 L2.length c3) L2] ++ [alF (.slice ad l.length cap) l]) []) (GF noK K8 []) [] β1 (cfC (bodyL Try.f5) (fillF (scrF 95 bkK) u1 0 (bkV (.slice ad l.length cap) (.slice d3 L2.length c3) l.length t)) [(0, rU a), (1, rU b)] 2) a1 w1) : At Try.prog Q (cfC (bodyL Try.f5) (fillF (scrF 95 bkK) u1 0 (bkV (.slice ad l.length cap) (.slice d3 L2.length c3) l.length t)) [(0, rU a), (1, rU b)] 2) a1 w1 := by
  obtain ⟨x, hx⟩ : ∃ y, l[t]? = some y := ⟨_, List.getElem?_eq_getElem htl⟩
  obtain ⟨ad', cap', he, hm⟩ := id hv
  cases he
  obtain ⟨ga, off, cs, rfl, hlt, hca, rfl, hxW⟩ := hm t x hx
  have hld : ∀ w', GS w w w.heap.size noK K8 ([alF (.slice d3 L2.length c3) L2] ++ [alF (.slice (some ⟨ga, off, none⟩) l.length cap) l]) [] w' → (loadVar 39 ⟨ga, off + t * 8, none⟩).run Try.prog w' = .ok (alV x) w' := fun w' h => loadAl (hca.keep (h.bw.block ga hlt))
  obtain ⟨dx, nx, kx, le, ri⟩ := x
  refine goT (T := GS w w w.heap.size noK K8 ([alF (.slice d3 L2.length c3) L2] ++ [alF (.slice (some ⟨ga, off, none⟩) l.length cap) l]) []) [lT t l.length (by omega), ixA ga off l.length cap t htl, ldA 39 hld] (GS.rsr _ _ _ _ _ _ _) (fun _ h => h) I fun β12 a12 w12 I hb12 => ?_
  refine lpM (l2B Try.f5) (fun k a' w' => ∃ (q : Nat) (β : Nat → Nat) (u : Nat → Value), k = t - q ∧ q ≤ t ∧ (∀ q', q' < q → Dq l t q') ∧ SI (GS w w w.heap.size noK K8 ([alF (.slice d3 L2.length c3) L2] ++ [alF (.slice (some ⟨ga, off, none⟩) l.length cap) l]) []) (GF noK K8 []) [] β (cfC (l2B Try.f5) (fillF (scrF 95 bkK2) u 0 (bkV2 (.slice (some ⟨ga, off, none⟩) l.length cap) (.slice d3 L2.length c3) l.length t q)) [(0, rU a), (1, rU b), (2, #[.string dx, B (l0 nx), B (l1 nx), B (l2 nx), B (l3 nx), Z kx, .string le, .string ri])] 3) a' w') t ?_ ?_
  · obtain ⟨u, Iu⟩ := I.scr (l2B Try.f5) (scrF 95 bkK2) (bkV2 (.slice (some ⟨ga, off, none⟩) l.length cap) (.slice d3 L2.length c3) l.length t 0) [(0, rU a), (1, rU b), (2, #[.string dx, B (l0 nx), B (l1 nx), B (l2 nx), B (l3 nx), Z kx, .string le, .string ri])] 3
    exact ⟨0, β12, u, rfl, Nat.zero_le _, fun q h => by omega, Iu⟩
  rintro k a13 w13 ⟨q, β13, u13, rfl, hq, hok2, I⟩
  refine wp_cfC (tm := fillF (scrF 95 bkK2) u13 0 (bkV2 (.slice (some ⟨ga, off, none⟩) l.length cap) (.slice d3 L2.length c3) l.length t q)) (rows := [(0, rU a), (1, rU b), (2, #[.string dx, B (l0 nx), B (l1 nx), B (l2 nx), B (l3 nx), Z kx, .string le, .string ri])]) (nx := 3) ?_
  rcases Nat.lt_or_ge q t with hqt | hqt
  · have hql : q < l.length := by omega
    obtain ⟨y, hy⟩ : ∃ y, l[q]? = some y := ⟨_, List.getElem?_eq_getElem hql⟩
    obtain ⟨gb, off2, cs2, he2, hlt2, hcb, rfl, hyW⟩ := hm q y hy
    cases he2
    have hk1 : ∀ w', GS w w w.heap.size noK K8 ([alF (.slice d3 L2.length c3) L2] ++ [alF (.slice (some ⟨ga, off, none⟩) l.length cap) l]) [] w' → (loadVar 3 ⟨ga, off + q * 8 + 5, none⟩).run Try.prog w' = .ok (Z y.2.2.1) w' := fun w' h => loadK (hcb.keep (h.bw.block ga hlt))
    have hk2 : ∀ w', GS w w w.heap.size noK K8 ([alF (.slice d3 L2.length c3) L2] ++ [alF (.slice (some ⟨ga, off, none⟩) l.length cap) l]) [] w' → (loadVar 9 ⟨ga, off + q * 8 + 0, none⟩).run Try.prog w' = .ok (.string y.1) w' := fun w' h => loadD (hcb.keep (h.bw.block ga hlt))
    have next : ∀ {β' : Nat → Nat} {a' : Act} {w' : World} (hD : Dq l t q) (u' : Nat → Value), SI (GS w w w.heap.size noK K8 ([alF (.slice d3 L2.length c3) L2] ++ [alF (.slice (some ⟨ga, off, none⟩) l.length cap) l]) []) (GF noK K8 []) [] β' (cfC (l2B Try.f5) (fillF (scrF 95 bkK2) u' 0 (bkV2 (.slice (some ⟨ga, off, none⟩) l.length cap) (.slice d3 L2.length c3) l.length t (q + 1))) [(0, rU a), (1, rU b), (2, #[.string dx, B (l0 nx), B (l1 nx), B (l2 nx), B (l3 nx), Z kx, .string le, .string ri])] 3) a' w' → ∃ j, j < t - q ∧ ∃ (q : Nat) (β : Nat → Nat) (u : Nat → Value), j = t - q ∧ q ≤ t ∧ (∀ q', q' < q → Dq l t q') ∧ SI (GS w w w.heap.size noK K8 ([alF (.slice d3 L2.length c3) L2] ++ [alF (.slice (some ⟨ga, off, none⟩) l.length cap) l]) []) (GF noK K8 []) [] β (cfC (l2B Try.f5) (fillF (scrF 95 bkK2) u 0 (bkV2 (.slice (some ⟨ga, off, none⟩) l.length cap) (.slice d3 L2.length c3) l.length t q)) [(0, rU a), (1, rU b), (2, #[.string dx, B (l0 nx), B (l1 nx), B (l2 nx), B (l3 nx), Z kx, .string le, .string ri])] 3) a' w' := fun hD u' Iu => ⟨t - (q + 1), by omega, q + 1, _, u', rfl, by omega, fun q' hq' => by
      rcases Nat.lt_or_ge q' q with h | h
      · exact hok2 q' h
      · obtain rfl : q' = q := by omega
        exact hD, Iu⟩
    have hDq : ¬ (kx = 0 ∧ y.2.2.1 = 0 ∧ dx = y.1) → Dq l t q := fun h x' y' hx' hy' => by
      rw [hx] at hx'; cases hx'
      rw [hy] at hy'; cases hy'
      exact h
    refine goQ [lT q t (by omega)] (GS.rsr _ _ _ _ _ _ _) I fun β14 a14 w14 I hb14 => ?_
    by_cases e0 : kx = 0
    case neg =>
      refine dwT (T := GS w w w.heap.size noK K8 ([alF (.slice d3 L2.length c3) L2] ++ [alF (.slice (some ⟨ga, off, none⟩) l.length cap) l]) []) 21 [bO .eql 3 (run_eqlZ (x := kx) (y := 0) (b := false) (decide_eq_false e0))] (GS.rsr _ _ _ _ _ _ _) (fun _ h => h) (PanOk.then (PanOk.qk hpan)) I fun a15 w15 I => ?_
      refine goQ [p1 q (by omega)] (GS.rsr _ _ _ _ _ _ _) I fun β16 a16 w16 I hb16 => ?_
      obtain ⟨u', Iu⟩ := I.scr (l2B Try.f5) (scrF 95 bkK2) (bkV2 (.slice (some ⟨ga, off, none⟩) l.length cap) (.slice d3 L2.length c3) l.length t (q + 1)) [(0, rU a), (1, rU b), (2, #[.string dx, B (l0 nx), B (l1 nx), B (l2 nx), B (l3 nx), Z kx, .string le, .string ri])] 3
      exact endL (next (hDq fun h => e0 h.1) u' Iu)
    by_cases e1 : y.2.2.1 = 0
    case neg =>
      refine dwT (T := GS w w w.heap.size noK K8 ([alF (.slice d3 L2.length c3) L2] ++ [alF (.slice (some ⟨ga, off, none⟩) l.length cap) l]) []) 21 [bO .eql 3 (run_eqlZ (x := kx) (y := 0) (b := true) (decide_eq_true e0)), ixA ga off l.length cap q hql, ldA 3 hk1, bO .eql 3 (run_eqlZ (x := y.2.2.1) (y := 0) (b := false) (decide_eq_false e1))] (GS.rsr _ _ _ _ _ _ _) (fun _ h => h) (PanOk.then (PanOk.qk hpan)) I fun a15 w15 I => ?_
      refine goQ [p1 q (by omega)] (GS.rsr _ _ _ _ _ _ _) I fun β16 a16 w16 I hb16 => ?_
      obtain ⟨u', Iu⟩ := I.scr (l2B Try.f5) (scrF 95 bkK2) (bkV2 (.slice (some ⟨ga, off, none⟩) l.length cap) (.slice d3 L2.length c3) l.length t (q + 1)) [(0, rU a), (1, rU b), (2, #[.string dx, B (l0 nx), B (l1 nx), B (l2 nx), B (l3 nx), Z kx, .string le, .string ri])] 3
      exact endL (next (hDq fun h => e1 h.2.1) u' Iu)
    by_cases e2 : dx = y.1
    case neg =>
      refine dwT (T := GS w w w.heap.size noK K8 ([alF (.slice d3 L2.length c3) L2] ++ [alF (.slice (some ⟨ga, off, none⟩) l.length cap) l]) []) 21 [bO .eql 3 (run_eqlZ (x := kx) (y := 0) (b := true) (decide_eq_true e0)), ixA ga off l.length cap q hql, ldA 3 hk1, bO .eql 3 (run_eqlZ (x := y.2.2.1) (y := 0) (b := true) (decide_eq_true e1)), ixA ga off l.length cap q hql, ldA 9 hk2, bO .eql 9 (eqT_run (decide_eq_false e2))] (GS.rsr _ _ _ _ _ _ _) (fun _ h => h) (PanOk.then (PanOk.qk hpan)) I fun a15 w15 I => ?_
      refine goQ [p1 q (by omega)] (GS.rsr _ _ _ _ _ _ _) I fun β16 a16 w16 I hb16 => ?_
      obtain ⟨u', Iu⟩ := I.scr (l2B Try.f5) (scrF 95 bkK2) (bkV2 (.slice (some ⟨ga, off, none⟩) l.length cap) (.slice d3 L2.length c3) l.length t (q + 1)) [(0, rU a), (1, rU b), (2, #[.string dx, B (l0 nx), B (l1 nx), B (l2 nx), B (l3 nx), Z kx, .string le, .string ri])] 3
      exact endL (next (hDq fun h => e2 h.2.2) u' Iu)
    refine dwT (T := GS w w w.heap.size noK K8 ([alF (.slice d3 L2.length c3) L2] ++ [alF (.slice (some ⟨ga, off, none⟩) l.length cap) l]) []) 21 [bO .eql 3 (run_eqlZ (x := kx) (y := 0) (b := true) (decide_eq_true e0)), ixA ga off l.length cap q hql, ldA 3 hk1, bO .eql 3 (run_eqlZ (x := y.2.2.1) (y := 0) (b := true) (decide_eq_true e1)), ixA ga off l.length cap q hql, ldA 9 hk2, bO .eql 9 (eqT_run (decide_eq_true e2))] (GS.rsr _ _ _ _ _ _ _) (fun _ h => h) (PanOk.then (PanOk.qk hpan)) I fun a15 w15 I => ?_
    refine goQ [kC Try.func8 haw] (GS.rsr _ _ _ _ _ _ _) I fun β16 a16 w16 I hb16 => ?_
    exact endR (hret _ _ (retV (v := .bool true) I ⟨rfl, I.hJ.bw⟩))
  · obtain rfl : q = t := by omega
    refine goQ [lF q q (by omega)] (GS.rsr _ _ _ _ _ _ _) I fun β14 a14 w14 I hb14 => ?_
    refine endE 2 ?_
    refine goQ [p1 q (by omega)] (GS.rsr _ _ _ _ _ _ _) (I.exit _) fun β15 a15 w15 I hb15 => ?_
    obtain ⟨u', Iu⟩ := I.scr (bodyL Try.f5) (scrF 95 bkK) (bkV (.slice (some ⟨ga, off, none⟩) l.length cap) (.slice d3 L2.length c3) l.length (q + 1)) [(0, rU a), (1, rU b)] 2
    exact atN (hnx _ _ _ _ hok2 Iu)
set_option maxHeartbeats 8000000 in
theorem back_walk {w : World} {v : Value} {l : List Al} {ch : ByteArray} {i j : Int} {a b : Nat} (hv : AlI w v l) (ha : a < W) (hb : b < W) : Calls Try.prog 5 #[v, .string ch, Z i, Z j, U a, U b] w fun e w' => e = .returned (.bool true) ∧ Below w.heap.size w w' := by
  have haw := awake_any
  have hL : Lt l := fun x hx => ali_lt hv hx
  have hfl := fun (ad : Option Addr) (cap : Nat) (w' : World) => few_any (w := w') ad cap l
  obtain ⟨ad, cap, hv0⟩ := hv.slice
  subst hv0
  refine inQ (J := GS w w w.heap.size noK (· < w.heap.size) [alF (.slice ad l.length cap) l] []) (F := GF noK (· < w.heap.size) []) Try.func5 (GS.start w fun f hf => by
    rw [List.mem_singleton.1 hf]; exact hv) fun ac I => ?_
  by_cases q1 : l.length ≤ 60
  case neg =>
    rw [decide_eq_false q1] at hfl
    refine goQ [kC Try.func7 (hfl ad cap), ntO false, kC Try.func8 haw] (GS.rsr _ _ _ _ _ _ _) I fun β1 a1 w1 I hb1 => ?_
    exact outQ (v := .bool true) I ⟨rfl, I.hJ.bw⟩
  rw [decide_eq_true q1] at hfl
  refine goQ [kC Try.func7 (hfl ad cap), ntO true] (GS.rsr _ _ _ _ _ _ _) I fun β1 a1 w1 I hb1 => ?_
  refine mcall (f := 11) (ss := [Sum.inl (.slice ad l.length cap), Sum.inl (.string ch), Sum.inl (Z i), Sum.inl (Z j), Sum.inl (U a), Sum.inl (U b)]) Try.func11 I ((bind_any (I.hJ.al (i := 0) rfl) (by omega) ch i j ha hb).mono fun e w6 he => ?_)
  obtain ⟨v3, rfl, hn⟩ := he
  obtain ⟨K8, I⟩ := I.gs hn (.tuple #[v3, Z (bdE l ch.size i j a b)])
  clear hn
  by_cases z2 : bdE l ch.size i j a b = 0
  case neg =>
    generalize bdE l ch.size i j a b = E2 at *
    refine goQ [bO .neq 28 (run_neE (x := E2) (y := 0) (b := true) (decide_eq_true z2)), kC Try.func8 haw] (GS.rsr _ _ _ _ _ _ _) I fun β1 a1 w1 I hb1 => ?_
    exact outQ (v := .bool true) I ⟨rfl, I.hJ.bw⟩
  have hn2 := bdR_len0 z2
  obtain ⟨ni, nj, rfl, rfl, _⟩ := bd_ok z2
  have hback := fun hd => back_pure hL z2 hd
  rw [z2] at I ⊢
  clear z2
  generalize bdR l ch ni nj a b = L2 at *
  obtain ⟨d3, c3, hv3⟩ := (I.hJ.al (i := 0) (v := v3) (l := L2) rfl).slice
  subst hv3
  refine goQ [bO .neq 28 (run_neE (x := 0) (y := 0) (b := false) rfl), lnA ad l.length cap] (GS.rsr _ _ _ _ _ _ _) I fun β9 a9 w9 I hb9 => ?_
  refine lpM (bodyL Try.f5) (fun k a' w' => ∃ (t : Nat) (β : Nat → Nat) (u : Nat → Value), k = l.length - t ∧ t ≤ l.length ∧ (∀ p q, q < p → p < t → Dq l p q) ∧ SI (GS w w w.heap.size noK K8 ([alF (.slice d3 L2.length c3) L2] ++ [alF (.slice ad l.length cap) l]) []) (GF noK K8 []) [] β (cfC (bodyL Try.f5) (fillF (scrF 95 bkK) u 0 (bkV (.slice ad l.length cap) (.slice d3 L2.length c3) l.length t)) [(0, rU a), (1, rU b)] 2) a' w') l.length ?_ ?_
  · obtain ⟨u, Iu⟩ := I.scr (bodyL Try.f5) (scrF 95 bkK) (bkV (.slice ad l.length cap) (.slice d3 L2.length c3) l.length 0) [(0, rU a), (1, rU b)] 2
    exact ⟨0, β9, u, rfl, Nat.zero_le _, fun p q _ h => by omega, Iu⟩
  rintro k a11 w11 ⟨t, β11, u11, rfl, ht, hok, I⟩
  refine wp_cfC (tm := fillF (scrF 95 bkK) u11 0 (bkV (.slice ad l.length cap) (.slice d3 L2.length c3) l.length t)) (rows := [(0, rU a), (1, rU b)]) (nx := 2) ?_
  rcases Nat.lt_or_ge t l.length with htl | htl
  · refine bk_row hv haw htl q1 (PanOk.then (PanOk.qk PanOk.post)) (fun _ _ h => thenR h) (fun a' w' β u h Iu => ?_) I
    refine thN ?_
    refine ⟨l.length - (t + 1), by omega, t + 1, β, u, rfl, htl, fun p q hq' hp => ?_, Iu⟩
    rcases Nat.lt_or_ge p t with h' | h'
    · exact hok p q hq' h'
    · obtain rfl : p = t := by omega
      exact h q hq'
  · obtain rfl : t = l.length := by omega
    obtain ⟨hE, hR⟩ := hback fun p q hq => by
      rcases Nat.lt_or_ge p l.length with h | h
      · exact hok p q hq h
      · intro x y hx
        rw [List.getElem?_eq_none h] at hx
        cases hx
    have hrec := fun (w' : World) (vs : Value) (h1 : AlI w' (.slice d3 L2.length c3) L2) (h2 : AlI w' vs [xS a, xS b]) => reclaim_any h1 h2 (by omega) (by simp) (l.length : Nat)
    rw [hE, hR] at hrec
    refine goQ [lF l.length l.length (by omega)] (GS.rsr _ _ _ _ _ _ _) I fun β12 a12 w12 I hb12 => ?_
    refine endE 0 ?_
    refine goQ [lnA d3 L2.length c3, bO .sub 3 (run_subZ (x := L2.length) (y := 1) (z := l.length) (by rw [wz (by omega) (by omega)]; omega)), dO 39 [1] (bdS a), dO 39 [1] (bdS b)] (GS.rsr _ _ _ _ _ _ _) (I.exit _) fun β13 a13 w13 I hb13 => ?_
    refine bslQ (ss := [(0, Sum.inl (alV (xS a))), (1, Sum.inl (alV (xS b)))]) I (bs22_2 _ _ w13) ?_
    obtain ⟨K14, I⟩ := I.gs (nw_al [xS a, xS b] (fun t ht => by
      simp only [List.mem_cons, List.not_mem_nil, or_false] at ht
      rcases ht with rfl | rfl
      · exact ha
      · exact hb) (by simp) rfl w13) (.slice (some ⟨w13.heap.size, 0, none⟩) 2 2)
    generalize w13.heap.size = g13 at *
    refine goQ [] (GS.rsr _ _ _ _ _ _ _) I fun β15 a15 w15 I hb15 => ?_
    refine mcall (f := 9) (ss := [Sum.inl (.slice d3 L2.length c3), Sum.inl (Z l.length), Sum.inl (.slice (some ⟨g13, 0, none⟩) 2 2)]) Try.func9 I ((hrec _ _ (I.hJ.al (i := 1) rfl) (I.hJ.al (i := 0) rfl)).mono fun e w16 he => ?_)
    obtain ⟨v5, rfl, hn5⟩ := he
    obtain ⟨K16, I⟩ := I.gs hn5 (.tuple #[v5, Z 0])
    have hS := fun (w' : World) (hw : GS w w w.heap.size noK K16 ([alF v5 l] ++ ([alF (.slice (some ⟨g13, 0, none⟩) 2 2) [xS a, xS b]] ++ ([alF (.slice d3 L2.length c3) L2] ++ [alF (.slice ad l.length cap) l]))) [] w') => same_any (hw.al (i := 0) (v := v5) (l := l) rfl) (hw.al (i := 3) (v := .slice ad l.length cap) (l := l) rfl) (by omega)
    rw [decide_eq_true rfl] at hS
    refine goT (T := GS w w w.heap.size noK K16 ([alF v5 l] ++ ([alF (.slice (some ⟨g13, 0, none⟩) 2 2) [xS a, xS b]] ++ ([alF (.slice d3 L2.length c3) L2] ++ [alF (.slice ad l.length cap) l]))) []) [bO .eql 28 (run_eqE (x := 0) (y := 0) (b := true) rfl), cA Try.func13 hS, kC Try.func8 haw] (GS.rsr _ _ _ _ _ _ _) (fun _ h => h) I fun β17 a17 w17 I hb17 => ?_
    exact outQ (v := .bool true) I ⟨rfl, I.hJ.bw⟩
end Go.Proofs.Ytdiblfgnnliifaa
