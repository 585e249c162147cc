/- AcctKeeps: for all accounts, texts and numbers. -/
import Derived.Test.YtpjplicioidknaaJo
namespace Go.Proofs.Ytpjplicioidknaa
open Go.RowKit Go.Sort
set_option linter.unusedVariables false
set_option maxRecDepth 100000
abbrev kpK : List Nat := [0, 1, 2, 7, 8, 9, 10, 11, 12, 97, 98, 99]
abbrev kpV (v va : Value) (x y : ByteArray) (ok : Bool) (m i : Nat) : Vs := frm 167 [(0, Sum.inl v), (1, Sum.inl (.string x)), (2, Sum.inl (.string y)), (7, Sum.inr (0, 0)), (8, Sum.inl (.bool false)), (9, Sum.inr (1, 0)), (10, Sum.inl (.bool ok)), (11, Sum.inl va), (12, Sum.inl (Z 0)), (97, Sum.inl v), (98, Sum.inl (Z m)), (99, Sum.inl (Z i))]
set_option maxHeartbeats 8000000 in
theorem keeps_walk {w : World} {v : Value} {l : List Co} (h : CoI w v l) (hc : capOk v) (x y : ByteArray) (n : Nat) (hn : n < W) : Calls Try.prog 5 #[v, .string x, .string y, U n] w fun e w' => e = .returned (.bool true) ∧ Below w.heap.size w w' := by
  have haw := awake_any
  have hfw := fun (w' : World) (h : HS w (· < w.heap.size) [(v, l)] w') => few_any (h.co (v := v) (l := l) (by simp))
  refine inQ (J := HS w (· < w.heap.size) [(v, l)]) (F := (· < w.heap.size)) Try.func5 (HS.start fun p hp => by rw [List.mem_singleton.1 hp]; exact h) fun a I => ?_
  by_cases q1 : ¬ l.length ≤ 100
  · rw [decide_eq_false q1] at hfw
    refine goT (T := HS w (· < w.heap.size) [(v, l)]) [cA Try.func7 hfw, ntO false, kC Try.func8 haw] (HS.rs _ _ _) (fun _ h => h) I fun β1 a1 w1 I hb1 => ?_
    exact outQ (v := .bool true) I ⟨rfl, I.hJ.bw⟩
  have q1 := Classical.not_not.1 q1
  rw [decide_eq_true q1] at hfw
  have hft := fun (w' : World) (h : HS w (· < w.heap.size) [(v, l)] w') => rfit_any (h.co (v := v) (l := l) (by simp)) (by omega)
  cases hq : fitL l with
  | false =>
    rw [hq] at hft
    refine goT (T := HS w (· < w.heap.size) [(v, l)]) [cA Try.func7 hfw, ntO true, cA Try.func12 hft, ntO false, kC Try.func8 haw] (HS.rs _ _ _) (fun _ h => h) I fun β1 a1 w1 I hb1 => ?_
    exact outQ (v := .bool true) I ⟨rfl, I.hJ.bw⟩
  | true =>
    rw [hq] at hft
    have F := fit_iff.1 hq
    obtain ⟨A, B, v0, D⟩ := F.dec (x, y)
    have hsm := F.sm y
    have hv0 := D.le_sum
    have hlen := D.len
    have hwas := fun (w' : World) (h : HS w (· < w.heap.size) [(v, l)] w') => rsum_any (h.co (v := v) (l := l) (by simp)) y (by omega)
    rw [sumOk F y] at hwas
    have c1 := fun (w' : World) (h : CoI w' v l) => give_any h hc F (by omega) D hn
    have c5 := fun (w' : World) (h : CoI w' v l) => take_any h hc F (by omega) D hn
    have hsl := fun (w' : World) (v' : Value) (h : CoI w' v' l) (h' : CoI w' v l) => same_any h h' (by omega)
    rw [decide_eq_true rfl] at hsl
    have hget : ∀ c ∈ l, getN l (ky c) = c.2.2 := fun c hc => get_in F.pw hc F.nz
    have hSum := fun s => D.sum s
    obtain ⟨S, hS⟩ : ∃ S, smN l y = S := ⟨_, rfl⟩
    rw [hS] at hwas hsm hv0
    have hSd : S = smN A y + v0 + smN B y := by rw [← hS, D.sum, if_pos rfl]
    -- what is taken
    have htk : ∃ ld te, tkP l A B x y v0 n = (ld, te) ∧ ((te = 0 ∧ Fit ld ∧ smN ld y = S - n ∧ n ≤ S ∧ ld.length ≤ 900) ∨ (te ≠ 0 ∧ ld = l)) := by
      unfold tkP
      cases hnm : nmB x y with
      | false => exact ⟨l, 2, by rw [if_pos rfl], .inr ⟨by decide, rfl⟩⟩
      | true =>
        rw [if_neg (by simp)]
        by_cases ho : v0 < n
        · exact ⟨l, 16, by rw [if_pos ho], .inr ⟨by decide, rfl⟩⟩
        · refine ⟨_, 0, by rw [if_neg ho], .inl ⟨rfl, ?_, ?_, by omega, ?_⟩⟩
          · refine D.fit F (nmB_true hnm).1 (nmB_true hnm).2 ?_ ?_
            · rw [List.length_append, List.length_append, own_len]; split <;> omega
            · show smN A y + (v0 - n) + smN B y < W
              omega
          · rw [(D.again (v0 - n)).sum, if_pos rfl]; omega
          · rw [List.length_append, List.length_append, own_len]; split <;> omega
    obtain ⟨ld, te, htk, hcs⟩ := htk
    rw [htk] at c5
    simp only [] at c5
    refine goT (T := HS w (· < w.heap.size) [(v, l)]) [cA Try.func7 hfw, ntO true, cA Try.func12 hft, ntO true, cA Try.func10 hwas] (HS.rs _ _ _) (fun _ h => h) I fun β1 a1 w1 I hb1 => ?_
    refine mcall (f := 15) (ss := [Sum.inl v, Sum.inl (.string x), Sum.inl (.string y), Sum.inl (U n)]) Try.func15 I ((c1 w1 (I.hJ.co (by simp))).mono fun e w2 he => ?_)
    obtain ⟨va, K1, rfl, hj1⟩ := he
    obtain ⟨K2, I⟩ := I.hs (hj1.toRsL _) (.tuple #[va, Z (gvP l A B x y v0 n).2])
    have hgv : (gvP l A B x y v0 n = (A ++ own (x, y) (v0 + n) ++ B, 0) ∧ Fit (A ++ own (x, y) (v0 + n) ++ B) ∧ smN (A ++ own (x, y) (v0 + n) ++ B) y = S + n ∧ S + n < W ∧ (A ++ own (x, y) (v0 + n) ++ B).length ≤ 900 ∧ nmB x y = true) ∨ (∃ te, te ≠ 0 ∧ gvP l A B x y v0 n = (l, te)) := by
      unfold gvP
      rw [hS]
      cases hnm : nmB x y with
      | false => exact .inr ⟨2, by decide, by rw [if_pos rfl]⟩
      | true =>
        rw [if_neg (by simp)]
        by_cases ho : W ≤ S + n
        · exact .inr ⟨7, by decide, by rw [if_pos ho]⟩
        · refine .inl ⟨by rw [if_neg ho], ?_, ?_, by omega, ?_, rfl⟩
          · refine D.fit F (nmB_true hnm).1 (nmB_true hnm).2 ?_ ?_
            · rw [List.length_append, List.length_append, own_len]; split <;> omega
            · show smN A y + (v0 + n) + smN B y < W
              omega
          · rw [(D.again (v0 + n)).sum, if_pos rfl]; omega
          · rw [List.length_append, List.length_append, own_len]; split <;> omega
    rcases hgv with ⟨hg, Fa, hsa, hSW, hal, hnm⟩ | ⟨ge, hge, hg⟩
    · rw [hg] at hj1 I ⊢
      have D2 : Dec (A ++ own (x, y) (v0 + n) ++ B) (x, y) A B (v0 + n) := D.again _
      have hoth : ∀ c ∈ l, ky c ≠ (x, y) → getN (A ++ own (x, y) (v0 + n) ++ B) (ky c) = c.2.2 := fun c hc hk => by
        rw [get_other (v0 + n) v0 hk, ← D.eq]
        exact hget c hc
      have hback : tkP (A ++ own (x, y) (v0 + n) ++ B) A B x y (v0 + n) n = (l, 0) := by
        unfold tkP
        rw [hnm, if_neg (by simp), if_neg (by omega), Nat.add_sub_cancel, ← D.eq]
      have c3 := fun (w' : World) (h : CoI w' va (A ++ own (x, y) (v0 + n) ++ B)) => take_any h hj1.cp Fa hal D2 hn
      rw [hback] at c3
      have T1 := fun (w' : World) (h : HS w K2 [(va, A ++ own (x, y) (v0 + n) ++ B), (v, l)] w') => rsum_any (h.co (v := va) (l := A ++ own (x, y) (v0 + n) ++ B) (by simp)) y (by omega)
      rw [sumOk Fa y, hsa] at T1
      have hT2 := fun (w' : World) (h : CoI w' va (A ++ own (x, y) (v0 + n) ++ B)) => rfit_any h (by omega)
      rw [fit_iff.2 Fa] at hT2
      have hadd := addOk radd_any hsm hn hSW
      have hrg := fun (w' : World) (s t : ByteArray) (h : CoI w' va (A ++ own (x, y) (v0 + n) ++ B)) => rget_any h s t (by omega)
      generalize A ++ own (x, y) (v0 + n) ++ B = la at *
      obtain ⟨S2, hS2⟩ : ∃ S2, S + n = S2 := ⟨_, rfl⟩
      rw [hS2] at T1 hadd hSW
      simp only [] at hj1 I
      refine goT (T := HS w K2 [(va, la), (v, l)]) [bO .eql 32 (run_eqE (x := 0) (y := 0) (b := true) rfl), cA Try.func10 T1, kC Try.func20 hadd] (HS.rs _ _ _) (fun _ h => h) I fun β3 a3 w3 I hb3 => ?_
      refine mcall (f := 17) (ss := [Sum.inl va, Sum.inl (.string x), Sum.inl (.string y), Sum.inl (U n)]) Try.func17 I ((c3 w3 (I.hJ.co (by simp))).mono fun e w4 he => ?_)
      obtain ⟨vb, K4, rfl, hj4⟩ := he
      obtain ⟨K5, I⟩ := I.hs (hj4.toRsL _) (.tuple #[vb, Z 0])
      simp only [] at I
      have U1 := fun (w' : World) (h : HS w K5 [(vb, l), (va, la), (v, l)] w') => hT2 w' (h.co (v := va) (l := la) (by simp))
      have U2 := fun (w' : World) (h : HS w K5 [(vb, l), (va, la), (v, l)] w') => hsl w' vb (h.co (v := vb) (l := l) (by simp)) (h.co (v := v) (l := l) (by simp))
      obtain ⟨ad, cap, hv⟩ := h.slice
      obtain ⟨ad', cap', he', hm⟩ := h
      rw [hv] at he'
      cases he'
      subst hv
      refine goT (T := HS w K5 [(vb, l), (va, la), (.slice ad l.length cap, l)]) [cA Try.func12 U1, ntO true, ntO true, bO .neq 27 (neqU_run hSW hSW (b := false) (decide_eq_false (by simp))), bO .neq 32 (run_neE (x := 0) (y := 0) (b := false) rfl), cA Try.func19 U2, ntO true, lnC ad l.length cap] (HS.rs _ _ _) (fun _ h => h) I fun β6 a6 w6 I hb6 => ?_
      let St : Nat → Act → World → Prop := fun k a w' => ∃ (i : Nat) (β : Nat → Nat) (u : Nat → Value), k = l.length - i ∧ i ≤ l.length ∧
        SI (HS w K5 [(vb, l), (va, la), (.slice ad l.length cap, l)]) K5 [] β (cfC (bodyL Try.f5) (fillF (scrF 167 kpK) u 0 (kpV (.slice ad l.length cap) va x y true l.length i)) [(0, rU n), (1, rU S)] 2) a w'
      refine lpM (bodyL Try.f5) St l.length ?_ ?_
      · obtain ⟨u, Iu⟩ := I.scr (bodyL Try.f5) (scrF 167 kpK) (kpV (.slice ad l.length cap) va x y true l.length 0) [(0, rU n), (1, rU S)] 2
        exact ⟨0, _, u, by omega, Nat.zero_le _, Iu⟩
      rintro k a7 w7 ⟨i, β7, u, rfl, hi, I⟩
      refine wp_cfC (tm := fillF (scrF 167 kpK) u 0 (kpV (.slice ad l.length cap) va x y true l.length i)) (rows := [(0, rU n), (1, rU S)]) (nx := 2) ?_
      rcases Nat.lt_or_ge i l.length with hil | hil
      · obtain ⟨c, h1⟩ : ∃ t, l[i]? = some t := ⟨_, List.getElem?_eq_getElem hil⟩
        obtain ⟨g, off, cs, rfl, hlt, hca, rfl, ham⟩ := hm i _ h1
        have hld : ∀ w', HS w K5 [(vb, l), (va, la), (.slice (some ⟨g, off, none⟩) l.length cap, l)] w' → (loadVar 41 ⟨g, off + i * 6, none⟩).run Try.prog w' = .ok (coV c) w' := fun w' h => loadCo (hca.keep (h.bw.block g hlt))
        have hoc := hoth c (List.mem_of_getElem? h1)
        have hgc := fun (w' : World) (h : HS w K5 [(vb, l), (va, la), (.slice (some ⟨g, off, none⟩) l.length cap, l)] w') => hrg w' c.1 c.2.1 (h.co (v := va) (l := la) (by simp))
        obtain ⟨wh, asst, am⟩ := c
        simp only [] at hgc ham
        have hky : ky (wh, asst, am) = (wh, asst) := rfl
        rw [hky] at hoc
        simp only [] at hoc
        refine goT (T := HS w K5 [(vb, l), (va, la), (.slice (some ⟨g, off, none⟩) l.length cap, l)]) [lT i l.length (by omega), ixC g off l.length cap i hil, ldA 41 hld] (HS.rs _ _ _) (fun _ h => h) I fun β8 a8 w8 I hb8 => ?_
        by_cases kw : ¬ wh = x
        · rw [hoc fun e => kw (congrArg Prod.fst e)] at hgc
          refine dwT (T := HS w K5 [(vb, l), (va, la), (.slice (some ⟨g, off, none⟩) l.length cap, l)]) 21 [bO .neq 9 (neqT_run (a := wh) (b := x) (q := true) (decide_eq_true kw)), cA Try.func14 hgc, bO .neq 27 (neqU_run ham ham (b := false) (decide_eq_false (by simp)))] (HS.rs _ _ _) (fun _ h => h) (PanOk.then (PanOk.qk PanOk.post)) I fun a9 w9 I => ?_
          refine goQ [p1 i (by omega)] (HS.rs _ _ _) I fun β10 a10 w10 I hb10 => ?_
          obtain ⟨u', Iu⟩ := I.scr (bodyL Try.f5) (scrF 167 kpK) (kpV (.slice (some ⟨g, off, none⟩) l.length cap) va x y true l.length (i + 1)) [(0, rU n), (1, rU S)] 2
          exact endL ⟨l.length - (i + 1), by omega, i + 1, _, u', rfl, hil, Iu⟩
        have kw := Classical.not_not.1 kw
        by_cases ka : ¬ asst = y
        · rw [hoc fun e => ka (congrArg Prod.snd e)] at hgc
          refine dwT (T := HS w K5 [(vb, l), (va, la), (.slice (some ⟨g, off, none⟩) l.length cap, l)]) 21 [bO .neq 9 (neqT_run (a := wh) (b := x) (q := false) (decide_eq_false (not_not_intro kw))), bO .neq 9 (neqT_run (a := asst) (b := y) (q := true) (decide_eq_true ka)), cA Try.func14 hgc, bO .neq 27 (neqU_run ham ham (b := false) (decide_eq_false (by simp)))] (HS.rs _ _ _) (fun _ h => h) (PanOk.then (PanOk.qk PanOk.post)) I fun a9 w9 I => ?_
          refine goQ [p1 i (by omega)] (HS.rs _ _ _) I fun β10 a10 w10 I hb10 => ?_
          obtain ⟨u', Iu⟩ := I.scr (bodyL Try.f5) (scrF 167 kpK) (kpV (.slice (some ⟨g, off, none⟩) l.length cap) va x y true l.length (i + 1)) [(0, rU n), (1, rU S)] 2
          exact endL ⟨l.length - (i + 1), by omega, i + 1, _, u', rfl, hil, Iu⟩
        have ka := Classical.not_not.1 ka
        refine dwT (T := HS w K5 [(vb, l), (va, la), (.slice (some ⟨g, off, none⟩) l.length cap, l)]) 21 [bO .neq 9 (neqT_run (a := wh) (b := x) (q := false) (decide_eq_false (not_not_intro kw))), bO .neq 9 (neqT_run (a := asst) (b := y) (q := false) (decide_eq_false (not_not_intro ka)))] (HS.rs _ _ _) (fun _ h => h) (PanOk.then (PanOk.qk PanOk.post)) I fun a9 w9 I => ?_
        refine goQ [p1 i (by omega)] (HS.rs _ _ _) I fun β10 a10 w10 I hb10 => ?_
        obtain ⟨u', Iu⟩ := I.scr (bodyL Try.f5) (scrF 167 kpK) (kpV (.slice (some ⟨g, off, none⟩) l.length cap) va x y true l.length (i + 1)) [(0, rU n), (1, rU S)] 2
        exact endL ⟨l.length - (i + 1), by omega, i + 1, _, u', rfl, hil, Iu⟩
      · obtain rfl : i = l.length := by omega
        refine goQ [lF l.length l.length (by omega)] (HS.rs _ _ _) I fun β8 a8 w8 I hb8 => ?_
        refine endE 0 ?_
        refine goQ [] (HS.rs _ _ _) (I.exit _) fun β9 a9 w9 I hb9 => ?_
        refine mcall (f := 17) (ss := [Sum.inl (.slice ad l.length cap), Sum.inl (.string x), Sum.inl (.string y), Sum.inl (U n)]) Try.func17 I ((c5 _ (I.hJ.co (by simp))).mono fun e w20 he => ?_)
        obtain ⟨vd, K20, rfl, hj20⟩ := he
        obtain ⟨K21, I⟩ := I.hs (hj20.toRsL _) (.tuple #[vd, Z te])
        rcases hcs with ⟨rfl, Fd, hsd, hle, hdl⟩ | ⟨hte, hld⟩
        · have T1 := fun (w' : World) (h : HS w K21 ((vd, ld) :: [(vb, l), (va, la), (.slice ad l.length cap, l)]) w') => rsum_any (h.co (v := vd) (l := ld) (by simp)) y (by omega)
          have T2 := fun (w' : World) (h : HS w K21 ((vd, ld) :: [(vb, l), (va, la), (.slice ad l.length cap, l)]) w') => rfit_any (h.co (v := vd) (l := ld) (by simp)) (by omega)
          rw [sumOk Fd y, hsd] at T1
          rw [fit_iff.2 Fd] at T2
          have hsb := rsub_any S n hsm hn
          rw [show unW S n = false from decide_eq_false (by omega), show subW S n = S - n from by unfold subW; rw [show S + W - n = S - n + W by omega, Nat.add_mod_right, Nat.mod_eq_of_lt (by omega)]] at hsb
          have hdW : S - n < W := by omega
          obtain ⟨sd, hsde⟩ : ∃ sd, S - n = sd := ⟨_, rfl⟩
          rw [hsde] at T1 hsb hdW
          refine goT (T := HS w K21 ((vd, ld) :: [(vb, l), (va, la), (.slice ad l.length cap, l)])) [bO .neq 32 (run_neE (x := 0) (y := 0) (b := false) rfl), cA Try.func10 T1, kC Try.func21 hsb, cA Try.func12 T2, ntO false, bO .eql 27 (eqU_run hdW hdW (b := true) (decide_eq_true rfl)), kC Try.func8 haw] (HS.rs _ _ _) (fun _ h => h) I fun β22 a22 w22 I hb22 => ?_
          exact outQ (v := .bool true) I ⟨rfl, I.hJ.bw⟩
        · have T1 := fun (w' : World) (h : HS w K21 ((vd, ld) :: [(vb, l), (va, la), (.slice ad l.length cap, l)]) w') => hsl w' vd (by have q := h.co (v := vd) (l := ld) (by simp); rw [hld] at q; exact q) (h.co (v := .slice ad l.length cap) (l := l) (by simp))
          refine goT (T := HS w K21 ((vd, ld) :: [(vb, l), (va, la), (.slice ad l.length cap, l)])) [bO .neq 32 (run_neE (x := te) (y := 0) (b := true) (decide_eq_true hte)), cA Try.func19 T1, kC Try.func8 haw] (HS.rs _ _ _) (fun _ h => h) I fun β22 a22 w22 I hb22 => ?_
          exact outQ (v := .bool true) I ⟨rfl, I.hJ.bw⟩
    · rw [hg] at hj1 I ⊢
      simp only [] at hj1 I
      refine goQ [bO .eql 32 (run_eqE (x := ge) (y := 0) (b := false) (decide_eq_false hge))] (HS.rs _ _ _) I fun β3 a3 w3 I hb3 => ?_
      refine mcall (f := 17) (ss := [Sum.inl v, Sum.inl (.string x), Sum.inl (.string y), Sum.inl (U n)]) Try.func17 I ((c5 _ (I.hJ.co (by simp))).mono fun e w20 he => ?_)
      obtain ⟨vd, K20, rfl, hj20⟩ := he
      obtain ⟨K21, I⟩ := I.hs (hj20.toRsL _) (.tuple #[vd, Z te])
      rcases hcs with ⟨rfl, Fd, hsd, hle, hdl⟩ | ⟨hte, hld⟩
      · have T1 := fun (w' : World) (h : HS w K21 ((vd, ld) :: [(va, l), (v, l)]) w') => rsum_any (h.co (v := vd) (l := ld) (by simp)) y (by omega)
        have T2 := fun (w' : World) (h : HS w K21 ((vd, ld) :: [(va, l), (v, l)]) w') => rfit_any (h.co (v := vd) (l := ld) (by simp)) (by omega)
        rw [sumOk Fd y, hsd] at T1
        rw [fit_iff.2 Fd] at T2
        have hsb := rsub_any S n hsm hn
        rw [show unW S n = false from decide_eq_false (by omega), show subW S n = S - n from by unfold subW; rw [show S + W - n = S - n + W by omega, Nat.add_mod_right, Nat.mod_eq_of_lt (by omega)]] at hsb
        have hdW : S - n < W := by omega
        obtain ⟨sd, hsde⟩ : ∃ sd, S - n = sd := ⟨_, rfl⟩
        rw [hsde] at T1 hsb hdW
        refine goT (T := HS w K21 ((vd, ld) :: [(va, l), (v, l)])) [bO .neq 32 (run_neE (x := 0) (y := 0) (b := false) rfl), cA Try.func10 T1, kC Try.func21 hsb, cA Try.func12 T2, ntO false, bO .eql 27 (eqU_run hdW hdW (b := true) (decide_eq_true rfl)), kC Try.func8 haw] (HS.rs _ _ _) (fun _ h => h) I fun β22 a22 w22 I hb22 => ?_
        exact outQ (v := .bool true) I ⟨rfl, I.hJ.bw⟩
      · have T1 := fun (w' : World) (h : HS w K21 ((vd, ld) :: [(va, l), (v, l)]) w') => hsl w' vd (by have q := h.co (v := vd) (l := ld) (by simp); rw [hld] at q; exact q) (h.co (v := v) (l := l) (by simp))
        refine goT (T := HS w K21 ((vd, ld) :: [(va, l), (v, l)])) [bO .neq 32 (run_neE (x := te) (y := 0) (b := true) (decide_eq_true hte)), cA Try.func19 T1, kC Try.func8 haw] (HS.rs _ _ _) (fun _ h => h) I fun β22 a22 w22 I hb22 => ?_
        exact outQ (v := .bool true) I ⟨rfl, I.hJ.bw⟩
end Go.Proofs.Ytpjplicioidknaa
