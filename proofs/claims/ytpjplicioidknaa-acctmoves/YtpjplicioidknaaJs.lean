/- AcctMoves: for all accounts, texts and numbers. -/
import Derived.Test.YtpjplicioidknaaJo
namespace Go.Proofs.Ytpjplicioidknaa
open Go.RowKit Go.Sort
set_option linter.unusedVariables false
set_option maxRecDepth 100000
theorem bs22_0 (w : World) : (Instr.buildSlice 22 0 #[]).run Try.prog w = .ok (.slice (some ⟨w.heap.size, 0, none⟩) 0 0) (w.alloc (.cells #[] 41)) := by kernel_rfl
/-- A list appended to one of its own. -/
theorem app_list {w : World} {b n cap : Nat} {ad : Option Addr} {xs : List Value} (h : w.ownsRow b 41 6 (.slice ad n cap) n xs) (hb : b ≤ w.heap.size) {v : Value} {l : List Co} (hl : CoI w v l) (hs : n + l.length ≤ 1000000) : ∃ ad' cap' w', (Builtin.append_ #[22, 22] 22 #[.slice ad n cap, v]).run Try.prog w = .ok (.slice ad' (n + l.length) cap') w' ∧ w'.ownsRow b 41 6 (.slice ad' (n + l.length) cap') (n + l.length) (xs ++ (l.map co6).flatten) ∧ Grw (.slice ad n cap) (.slice ad' (n + l.length) cap') w w' := by
  obtain ⟨ad2, cap2, rfl⟩ := hl.slice
  by_cases h0 : l.length = 0
  · have e : l = [] := List.eq_nil_of_length_eq_zero h0
    subst e
    exact ⟨ad, cap, w, app_zero h ad2 cap2, by simpa using h, ⟨rfl, rfl, rfl, Nat.le_refl _, fun _ _ _ => rfl⟩, fun k hk => .inl hk⟩
  · obtain ⟨a, rfl, hc⟩ := coi_cells hl h0
    obtain ⟨v', w', hr, ho, hg⟩ := app_many h hb a l.length cap2 (l.map co6).flatten (flat_len6 l) (by omega) (hc w (Below.refl _ _)) (fun u hu => one6 hu) hs
    obtain ⟨ad', cap', rfl⟩ := owns_slice ho
    exact ⟨ad', cap', w', hr, ho, hg⟩
/-- What a law holds beside its lists: a row that grows. -/
structure HG (w0 : World) (K : Nat → Prop) (Ss : List (Value × List Co)) (b : Nat) (v : Value) (n : Nat) (xs : List Value) (w : World) : Prop where
  hs : HS w0 K Ss w
  own : w.ownsRow b 41 6 v n xs
  le : b ≤ w.heap.size
def GF (K : Nat → Prop) (v : Value) (k : Nat) : Prop := K k ∨ v.ownBlock = some k
theorem HG.rs (w0 : World) (K : Nat → Prop) (Ss : List (Value × List Co)) (b : Nat) (v : Value) (n : Nat) (xs : List Value) : Rsrc (HG w0 K Ss b v n xs) (GF K v) :=
  ⟨fun a a' h g => ⟨(HS.rs w0 K Ss).loc a a' h.hs ⟨g.os, g.tape, g.output, g.size, fun k hk hF => g.block k hk (.inl hF)⟩, owns_grow h.own g fun k hk => .inr hk, Nat.le_trans h.le g.size⟩, fun a k h hk => hk.elim (h.hs.kb k) fun hk => (h.own.lt k hk).2⟩
theorem SI.hg {w0 : World} {K : Nat → Prop} {Ss : List (Value × List Co)} {b n n' : Nat} {v v' : Value} {xs xs' : List Value} {ds : List Deferred} {β : Nat → Nat} {c : Cf} {a : Act} {w w' : World} (I : SI (HG w0 K Ss b v n xs) (GF K v) ds β c a w) (hKb : ∀ k, K k → k < b) (ho : w'.ownsRow b 41 6 v' n' xs') (hg : Grw v v' w w') (r : Value) : SI (HG w0 K Ss b v' n' xs') (GF K v') ds β (nxtQ c r) (a.put (dstQ c) r) w' := by
  have hb := I.hJ.own
  have e1 : ∀ k, k < w.heap.size → K k → w'.heap[k]? = w.heap[k]? := fun k hk hF => hg.gr.block k hk fun e => by
    have := (hb.lt k e.symm).1
    have := hKb k hF
    omega
  have e2 : ∀ k, k < w.heap.size → GF K v' k → GF K v k := fun k hk h => by
    rcases h with h | h
    · exact .inl h
    · rcases hg.nb k h with h1 | h1
      · exact .inr h1
      · omega
  exact I.moved ⟨hg.gr.os, hg.gr.tape, hg.gr.output, hg.gr.size, fun k hk hn => hg.gr.block k hk fun e => hn (.inr e.symm)⟩ ⟨(HS.rs w0 K Ss).loc w w' I.hJ.hs ⟨hg.gr.os, hg.gr.tape, hg.gr.output, hg.gr.size, e1⟩, ho, Nat.le_trans I.hJ.le hg.gr.size⟩ e2 r
abbrev mvK : List Nat := [0, 1, 2, 3, 9, 10, 13, 86, 87, 88]
abbrev mvV (v vb vc : Value) (x y s : ByteArray) (m i : Nat) : Vs := frm 125 [(0, Sum.inl v), (1, Sum.inl (.string x)), (2, Sum.inl (.string y)), (3, Sum.inl (.string s)), (9, Sum.inr (0, 0)), (10, Sum.inl (.bool false)), (13, Sum.inl vb), (86, Sum.inl vc), (87, Sum.inl (Z m)), (88, Sum.inl (Z i))]
set_option maxHeartbeats 8000000 in
theorem moves_walk {w : World} {v : Value} {l : List Co} (h : CoI w v l) (hc : capOk v) (x y s : ByteArray) (n : Nat) (hn : n < W) : Calls Try.prog 6 #[v, .string x, .string y, .string s, U n] w fun e w' => e = .returned (.bool true) ∧ Below w.heap.size w w' := by
  have haw := awake_any
  have hfw := fun (w' : World) (h : HS w (· < w.heap.size) [(v, l)] w') => few_any (h.co (v := v) (l := l) (by simp))
  refine inQ (J := HS w (· < w.heap.size) [(v, l)]) (F := (· < w.heap.size)) Try.func6 (HS.start fun p hp => by rw [List.mem_singleton.1 hp]; exact h) fun a I => ?_
  by_cases q1 : ¬ l.length ≤ 100
  · rw [decide_eq_false q1] at hfw
    refine goT (T := HS w (· < w.heap.size) [(v, l)]) [cA Try.func7 hfw, ntO false, kC Try.func8 haw] (HS.rs _ _ _) (fun _ h => h) I fun β1 a1 w1 I hb1 => ?_
    exact outQ (v := .bool true) I ⟨rfl, I.hJ.bw⟩
  have q1 := Classical.not_not.1 q1
  rw [decide_eq_true q1] at hfw
  have hft := fun (w' : World) (h : HS w (· < w.heap.size) [(v, l)] w') => rfit_any (h.co (v := v) (l := l) (by simp)) (by omega)
  cases hq : fitL l with
  | false =>
    rw [hq] at hft
    refine goT (T := HS w (· < w.heap.size) [(v, l)]) [cA Try.func7 hfw, ntO true, cA Try.func12 hft, ntO false, kC Try.func8 haw] (HS.rs _ _ _) (fun _ h => h) I fun β1 a1 w1 I hb1 => ?_
    exact outQ (v := .bool true) I ⟨rfl, I.hJ.bw⟩
  | true =>
    rw [hq] at hft
    by_cases hxy : x = y
    · refine goT (T := HS w (· < w.heap.size) [(v, l)]) [cA Try.func7 hfw, ntO true, cA Try.func12 hft, ntO true, bO .eql 9 (eqT_run (a := x) (b := y) (q := true) (decide_eq_true hxy)), kC Try.func8 haw] (HS.rs _ _ _) (fun _ h => h) I fun β1 a1 w1 I hb1 => ?_
      exact outQ (v := .bool true) I ⟨rfl, I.hJ.bw⟩
    have F := fit_iff.1 hq
    obtain ⟨A, B, v0, D⟩ := F.dec (x, s)
    have hsm := F.sm s
    have hv0 := D.le_sum
    have hlen := D.len
    have c1 := fun (w' : World) (h : CoI w' v l) => take_any h hc F (by omega) D hn
    -- what is taken
    have htk : ∃ la te, tkP l A B x s v0 n = (la, te) ∧ Fit la ∧ la.length ≤ 110 ∧ (te = 0 → smN la s + n = smN l s ∧ ∀ k, k ≠ (x, s) → getN la k = getN l k) := by
      unfold tkP
      cases hnm : nmB x s with
      | false => exact ⟨l, 2, by rw [if_pos rfl], F, by omega, fun h => by cases h⟩
      | true =>
        rw [if_neg (by simp)]
        by_cases ho : v0 < n
        · exact ⟨l, 16, by rw [if_pos ho], F, by omega, fun h => by cases h⟩
        · have hs1 := D.sum s
          rw [if_pos rfl] at hs1
          refine ⟨_, 0, by rw [if_neg ho], ?_, ?_, fun _ => ⟨?_, fun k hk => ?_⟩⟩
          · refine D.fit F (nmB_true hnm).1 (nmB_true hnm).2 ?_ ?_
            · rw [List.length_append, List.length_append, own_len]; split <;> omega
            · show smN A s + (v0 - n) + smN B s < W
              omega
          · rw [List.length_append, List.length_append, own_len]; split <;> omega
          · rw [(D.again (v0 - n)).sum, if_pos rfl]; omega
          · rw [get_other (v0 - n) v0 hk, ← D.eq]
    obtain ⟨la, te, htk, Fa, hal, hta⟩ := htk
    rw [htk] at c1
    simp only [] at c1
    obtain ⟨A2, B2, v2, D2⟩ := Fa.dec (y, s)
    have hsm2 := Fa.sm s
    have hv2 := D2.le_sum
    have hlen2 := D2.len
    have c2 := fun (w' : World) (v' : Value) (h : CoI w' v' la) (hc : capOk v') => give_any h hc Fa (by omega) D2 hn
    have hgv : ∃ lb ge, gvP la A2 B2 y s v2 n = (lb, ge) ∧ Fit lb ∧ lb.length ≤ 120 ∧ (ge = 0 → smN lb s = smN la s + n ∧ ∀ k, k ≠ (y, s) → getN lb k = getN la k) := by
      unfold gvP
      cases hnm : nmB y s with
      | false => exact ⟨la, 2, by rw [if_pos rfl], Fa, by omega, fun h => by cases h⟩
      | true =>
        rw [if_neg (by simp)]
        by_cases ho : W ≤ smN la s + n
        · exact ⟨la, 7, by rw [if_pos ho], Fa, by omega, fun h => by cases h⟩
        · have hs1 := D2.sum s
          rw [if_pos rfl] at hs1
          refine ⟨_, 0, by rw [if_neg ho], ?_, ?_, fun _ => ⟨?_, fun k hk => ?_⟩⟩
          · refine D2.fit Fa (nmB_true hnm).1 (nmB_true hnm).2 ?_ ?_
            · rw [List.length_append, List.length_append, own_len]; split <;> omega
            · show smN A2 s + (v2 + n) + smN B2 s < W
              omega
          · rw [List.length_append, List.length_append, own_len]; split <;> omega
          · rw [(D2.again (v2 + n)).sum, if_pos rfl]; omega
          · rw [get_other (v2 + n) v2 hk, ← D2.eq]
    obtain ⟨lb, ge, hgv, Fb, hbl, hgb⟩ := hgv
    rw [hgv] at c2
    simp only [] at c2
    refine goT (T := HS w (· < w.heap.size) [(v, l)]) [cA Try.func7 hfw, ntO true, cA Try.func12 hft, ntO true, bO .eql 9 (eqT_run (a := x) (b := y) (q := false) (decide_eq_false hxy))] (HS.rs _ _ _) (fun _ h => h) I fun β1 a1 w1 I hb1 => ?_
    refine mcall (f := 17) (ss := [Sum.inl v, Sum.inl (.string x), Sum.inl (.string s), Sum.inl (U n)]) Try.func17 I ((c1 w1 (I.hJ.co (by simp))).mono fun e w2 he => ?_)
    obtain ⟨va, K1, rfl, hj1⟩ := he
    obtain ⟨K2, I⟩ := I.hs (hj1.toRsL _) (.tuple #[va, Z te])
    refine goQ [] (HS.rs _ _ _) I fun β3 a3 w3 I hb3 => ?_
    refine mcall (f := 15) (ss := [Sum.inl va, Sum.inl (.string y), Sum.inl (.string s), Sum.inl (U n)]) Try.func15 I ((c2 w3 va (I.hJ.co (by simp)) hj1.cp).mono fun e w4 he => ?_)
    obtain ⟨vb, K3, rfl, hj3⟩ := he
    obtain ⟨K4, I⟩ := I.hs (hj3.toRsL _) (.tuple #[vb, Z ge])
    by_cases ht0 : ¬ te = 0
    · refine goQ [bO .neq 32 (run_neE (x := te) (y := 0) (b := true) (decide_eq_true ht0)), kC Try.func8 haw] (HS.rs _ _ _) I fun β5 a5 w5 I hb5 => ?_
      exact outQ (v := .bool true) I ⟨rfl, I.hJ.bw⟩
    have ht0 := Classical.not_not.1 ht0
    by_cases hg0 : ¬ ge = 0
    · refine goQ [bO .neq 32 (run_neE (x := te) (y := 0) (b := false) (decide_eq_false (not_not_intro ht0))), bO .neq 32 (run_neE (x := ge) (y := 0) (b := true) (decide_eq_true hg0)), kC Try.func8 haw] (HS.rs _ _ _) I fun β5 a5 w5 I hb5 => ?_
      exact outQ (v := .bool true) I ⟨rfl, I.hJ.bw⟩
    have hg0 := Classical.not_not.1 hg0
    obtain ⟨hs1, hge1⟩ := hta ht0
    obtain ⟨hs2, hge2⟩ := hgb hg0
    have hsame : smN lb s = smN l s := by omega
    have hgets : ∀ k, k ≠ (x, s) → k ≠ (y, s) → getN l k = getN lb k := fun k h1 h2 => by rw [hge2 k h2, hge1 k h1]
    have T1 := fun (w' : World) (h : HS w K4 [(vb, lb), (va, la), (v, l)] w') => rsum_any (h.co (v := v) (l := l) (by simp)) s (by omega)
    have T2 := fun (w' : World) (h : HS w K4 [(vb, lb), (va, la), (v, l)] w') => rsum_any (h.co (v := vb) (l := lb) (by simp)) s (by omega)
    have T3 := fun (w' : World) (h : HS w K4 [(vb, lb), (va, la), (v, l)] w') => rfit_any (h.co (v := vb) (l := lb) (by simp)) (by omega)
    rw [sumOk F s] at T1
    rw [sumOk Fb s, hsame] at T2
    rw [fit_iff.2 Fb] at T3
    obtain ⟨S, hS⟩ : ∃ S, smN l s = S := ⟨_, rfl⟩
    rw [hS] at T1 T2 hsm
    refine goT (T := HS w K4 [(vb, lb), (va, la), (v, l)]) [bO .neq 32 (run_neE (x := te) (y := 0) (b := false) (decide_eq_false (not_not_intro ht0))), bO .neq 32 (run_neE (x := ge) (y := 0) (b := false) (decide_eq_false (not_not_intro hg0))), cA Try.func10 T1, cA Try.func10 T2, ntO true, bO .neq 27 (neqU_run hsm hsm (b := false) (decide_eq_false (by simp))), cA Try.func12 T3, ntO true] (HS.rs _ _ _) (fun _ h => h) I fun β5 a5 w5 I hb5 => ?_
    refine bslQ (ss := []) I (bs22_0 w5) ?_
    have hK5 : ∀ k, K4 k → k < w5.heap.size := I.hJ.kb
    have hown : (w5.alloc (.cells #[] 41)).ownsRow w5.heap.size 41 6 (.slice (some ⟨w5.heap.size, 0, none⟩) 0 0) 0 [] := ⟨rfl, .inr ⟨w5.heap.size, 0, #[], rfl, Nat.le_refl _, heap_alloc_new w5 _, Nat.le_refl _, by decide, rfl, rfl⟩⟩
    have hbl5 := below_alloc w5 (.cells #[] 41)
    obtain ⟨b, hbe⟩ : ∃ b, w5.heap.size = b := ⟨_, rfl⟩
    rw [hbe] at hown hK5
    have I6 : SI (HG w K4 [(vb, lb), (va, la), (v, l)] b (.slice (some ⟨b, 0, none⟩) 0 0) 0 []) (GF K4 (.slice (some ⟨b, 0, none⟩) 0 0)) [] β5 (nxtQ _ (.slice (some ⟨w5.heap.size, 0, none⟩) 0 0)) _ (w5.alloc (.cells #[] 41)) := I.moved (Grow.of_below hbl5) ⟨(HS.rs w K4 _).loc _ _ I.hJ (Grow.of_below hbl5), hown, by rw [← hbe]; exact hbl5.size⟩ (fun k hk h => by
      rcases h with h | h
      · exact h
      · simp only [Value.ownBlock, Option.some.injEq] at h; omega) (.slice (some ⟨w5.heap.size, 0, none⟩) 0 0)
    rw [hbe] at I6 ⊢
    refine goQ [] (HG.rs _ _ _ _ _ _ _) I6 fun β7 a7 w7 I hb7 => ?_
    obtain ⟨ad8, cap8, w8, hr8, ho8, hg8⟩ := app_list I.hJ.own I.hJ.le (I.hJ.hs.co (v := v) (l := l) (by simp)) (by omega)
    refine appQ (ts := #[22, 22]) (ty := 22) (ss := [Sum.inl (.slice (some ⟨b, 0, none⟩) 0 0), Sum.inl v]) I hr8 ?_
    have I := I.hg hK5 ho8 hg8 (.slice ad8 (0 + l.length) cap8)
    refine goQ [] (HG.rs _ _ _ _ _ _ _) I fun β9 a9 w9 I hb9 => ?_
    obtain ⟨ad, cap, w10, hr10, ho10, hg10⟩ := app_list I.hJ.own I.hJ.le (I.hJ.hs.co (v := vb) (l := lb) (by simp)) (by omega)
    refine appQ (ts := #[22, 22]) (ty := 22) (ss := [Sum.inl (.slice ad8 (0 + l.length) cap8), Sum.inl vb]) I hr10 ?_
    have I := I.hg hK5 ho10 hg10 (.slice ad (0 + l.length + lb.length) cap)
    obtain ⟨lc, hlc⟩ : ∃ lc, l ++ lb = lc := ⟨_, rfl⟩
    have hxs : [] ++ (l.map co6).flatten ++ (lb.map co6).flatten = (lc.map co6).flatten := by rw [← hlc, List.map_append, List.flatten_append, List.nil_append]
    have hm0 : 0 + l.length + lb.length = lc.length := by rw [← hlc, List.length_append]; omega
    rw [hxs, hm0] at I
    rw [hm0]
    have hmem : ∀ c ∈ lc, c.2.2 < W := fun c hc => by
      rw [← hlc, List.mem_append] at hc
      rcases hc with hc | hc
      · exact coi_lt h hc
      · have := le_smN hc
        have := Fb.sm c.2.1
        omega
    have hcl : lc.length ≤ 220 := by rw [← hm0]; omega
    have hrg := fun (w' : World) (v' : Value) (l' : List Co) (s t : ByteArray) (h : CoI w' v' l') (hl : l'.length < 1000000000) => rget_any h s t hl
    have hgW : ∀ k, getN lb k < W := fun k => by
      obtain ⟨A3, B3, v3, D3⟩ := Fb.dec k
      rw [D3.get]
      exact D3.lt Fb
    refine goQ [lnC ad lc.length cap] (HG.rs _ _ _ _ _ _ _) I fun β11 a11 w11 I hb11 => ?_
    let St : Nat → Act → World → Prop := fun k a w' => ∃ (i : Nat) (β : Nat → Nat) (u : Nat → Value), k = lc.length - i ∧ i ≤ lc.length ∧
      SI (HG w K4 [(vb, lb), (va, la), (v, l)] b (.slice ad lc.length cap) lc.length (lc.map co6).flatten) (GF K4 (.slice ad lc.length cap)) [] β (cfC (bodyL Try.f6) (fillF (scrF 125 mvK) u 0 (mvV v vb (.slice ad lc.length cap) x y s lc.length i)) [(0, rU n)] 1) a w'
    refine lpM (bodyL Try.f6) St lc.length ?_ ?_
    · obtain ⟨u, Iu⟩ := I.scr (bodyL Try.f6) (scrF 125 mvK) (mvV v vb (.slice ad lc.length cap) x y s lc.length 0) [(0, rU n)] 1
      exact ⟨0, _, u, by omega, Nat.zero_le _, Iu⟩
    rintro k a12 w12 ⟨i, β12, u, rfl, hi, I⟩
    refine wp_cfC (tm := fillF (scrF 125 mvK) u 0 (mvV v vb (.slice ad lc.length cap) x y s lc.length i)) (rows := [(0, rU n)]) (nx := 1) ?_
    rcases Nat.lt_or_ge i lc.length with hil | hil
    · obtain ⟨c, h1⟩ : ∃ t, lc[i]? = some t := ⟨_, List.getElem?_eq_getElem hil⟩
      have ham := hmem c (List.mem_of_getElem? h1)
      have hadg : ∃ g, ad = some ⟨g, 0, none⟩ := by
        rcases I.hJ.own.2 with ⟨he, hz⟩ | ⟨g, cap', cur, he, _⟩
        · omega
        · cases he; exact ⟨g, rfl⟩
      obtain ⟨g, rfl⟩ := hadg
      have hld : ∀ w', HG w K4 [(vb, lb), (va, la), (v, l)] b (.slice (some ⟨g, 0, none⟩) lc.length cap) lc.length (lc.map co6).flatten w' → (loadVar 41 ⟨g, 0 + i * 6, none⟩).run Try.prog w' = .ok (coV c) w' := fun w' h => by
        refine loadCo fun j u hu => ?_
        have hf := flat_sz (sz := 6) (X := lc.map co6) (i := i) hu (fun z hz => by obtain ⟨c, _, rfl⟩ := List.mem_map.1 hz; rfl) (by rw [List.getElem?_map, h1]; rfl)
        have := h.own.cells (g := g) rfl (i * 6 + j) u hf
        rw [add_off] at this
        rw [Nat.add_assoc]
        exact this
      have hg1 := fun (w' : World) (h : HG w K4 [(vb, lb), (va, la), (v, l)] b (.slice (some ⟨g, 0, none⟩) lc.length cap) lc.length (lc.map co6).flatten w') => hrg w' v l c.1 c.2.1 (h.hs.co (by simp)) (by omega)
      have hg2 := fun (w' : World) (h : HG w K4 [(vb, lb), (va, la), (v, l)] b (.slice (some ⟨g, 0, none⟩) lc.length cap) lc.length (lc.map co6).flatten w') => hrg w' vb lb c.1 c.2.1 (h.hs.co (by simp)) (by omega)
      have hgk := hgets (c.1, c.2.1)
      have hgl := hgW (c.1, c.2.1)
      obtain ⟨wh, asst, am⟩ := c
      simp only [] at hg1 hg2 hgk hgl ham
      refine goT (T := HG w K4 [(vb, lb), (va, la), (v, l)] b (.slice (some ⟨g, 0, none⟩) lc.length cap) lc.length (lc.map co6).flatten) [lT i lc.length (by omega), ixC g 0 lc.length cap i hil, ldA 41 hld] (HG.rs _ _ _ _ _ _ _) (fun _ h => h) I fun β13 a13 w13 I hb13 => ?_
      by_cases k1 : ¬ asst = s
      · rw [hgk (fun e => k1 (congrArg Prod.snd e)) (fun e => k1 (congrArg Prod.snd e))] at hg1
        generalize getN lb (wh, asst) = gv at *
        refine dwT (T := HG w K4 [(vb, lb), (va, la), (v, l)] b (.slice (some ⟨g, 0, none⟩) lc.length cap) lc.length (lc.map co6).flatten) 31 [bO .neq 9 (neqT_run (a := asst) (b := s) (q := true) (decide_eq_true k1)), cA Try.func14 hg1, cA Try.func14 hg2, bO .neq 27 (neqU_run hgl hgl (b := false) (decide_eq_false (by simp)))] (HG.rs _ _ _ _ _ _ _) (fun _ h => h) (PanOk.then (PanOk.qk PanOk.post)) I fun a14 w14 I => ?_
        refine goQ [p1 i (by omega)] (HG.rs _ _ _ _ _ _ _) I fun β15 a15 w15 I hb15 => ?_
        obtain ⟨u', Iu⟩ := I.scr (bodyL Try.f6) (scrF 125 mvK) (mvV v vb (.slice (some ⟨g, 0, none⟩) lc.length cap) x y s lc.length (i + 1)) [(0, rU n)] 1
        exact endL ⟨lc.length - (i + 1), by omega, i + 1, _, u', rfl, hil, Iu⟩
      have k1 := Classical.not_not.1 k1
      by_cases k2 : ¬ wh = x
      · by_cases k3 : ¬ wh = y
        · rw [hgk (fun e => k2 (congrArg Prod.fst e)) (fun e => k3 (congrArg Prod.fst e))] at hg1
          generalize getN lb (wh, asst) = gv at *
          refine dwT (T := HG w K4 [(vb, lb), (va, la), (v, l)] b (.slice (some ⟨g, 0, none⟩) lc.length cap) lc.length (lc.map co6).flatten) 31 [bO .neq 9 (neqT_run (a := asst) (b := s) (q := false) (decide_eq_false (not_not_intro k1))), bO .neq 9 (neqT_run (a := wh) (b := x) (q := true) (decide_eq_true k2)), bO .neq 9 (neqT_run (a := wh) (b := y) (q := true) (decide_eq_true k3)), cA Try.func14 hg1, cA Try.func14 hg2, bO .neq 27 (neqU_run hgl hgl (b := false) (decide_eq_false (by simp)))] (HG.rs _ _ _ _ _ _ _) (fun _ h => h) (PanOk.then (PanOk.qk PanOk.post)) I fun a14 w14 I => ?_
          refine goQ [p1 i (by omega)] (HG.rs _ _ _ _ _ _ _) I fun β15 a15 w15 I hb15 => ?_
          obtain ⟨u', Iu⟩ := I.scr (bodyL Try.f6) (scrF 125 mvK) (mvV v vb (.slice (some ⟨g, 0, none⟩) lc.length cap) x y s lc.length (i + 1)) [(0, rU n)] 1
          exact endL ⟨lc.length - (i + 1), by omega, i + 1, _, u', rfl, hil, Iu⟩
        have k3 := Classical.not_not.1 k3
        refine dwT (T := HG w K4 [(vb, lb), (va, la), (v, l)] b (.slice (some ⟨g, 0, none⟩) lc.length cap) lc.length (lc.map co6).flatten) 31 [bO .neq 9 (neqT_run (a := asst) (b := s) (q := false) (decide_eq_false (not_not_intro k1))), bO .neq 9 (neqT_run (a := wh) (b := x) (q := true) (decide_eq_true k2)), bO .neq 9 (neqT_run (a := wh) (b := y) (q := false) (decide_eq_false (not_not_intro k3)))] (HG.rs _ _ _ _ _ _ _) (fun _ h => h) (PanOk.then (PanOk.qk PanOk.post)) I fun a14 w14 I => ?_
        refine goQ [p1 i (by omega)] (HG.rs _ _ _ _ _ _ _) I fun β15 a15 w15 I hb15 => ?_
        obtain ⟨u', Iu⟩ := I.scr (bodyL Try.f6) (scrF 125 mvK) (mvV v vb (.slice (some ⟨g, 0, none⟩) lc.length cap) x y s lc.length (i + 1)) [(0, rU n)] 1
        exact endL ⟨lc.length - (i + 1), by omega, i + 1, _, u', rfl, hil, Iu⟩
      have k2 := Classical.not_not.1 k2
      refine dwT (T := HG w K4 [(vb, lb), (va, la), (v, l)] b (.slice (some ⟨g, 0, none⟩) lc.length cap) lc.length (lc.map co6).flatten) 31 [bO .neq 9 (neqT_run (a := asst) (b := s) (q := false) (decide_eq_false (not_not_intro k1))), bO .neq 9 (neqT_run (a := wh) (b := x) (q := false) (decide_eq_false (not_not_intro k2)))] (HG.rs _ _ _ _ _ _ _) (fun _ h => h) (PanOk.then (PanOk.qk PanOk.post)) I fun a14 w14 I => ?_
      refine goQ [p1 i (by omega)] (HG.rs _ _ _ _ _ _ _) I fun β15 a15 w15 I hb15 => ?_
      obtain ⟨u', Iu⟩ := I.scr (bodyL Try.f6) (scrF 125 mvK) (mvV v vb (.slice (some ⟨g, 0, none⟩) lc.length cap) x y s lc.length (i + 1)) [(0, rU n)] 1
      exact endL ⟨lc.length - (i + 1), by omega, i + 1, _, u', rfl, hil, Iu⟩
    · obtain rfl : i = lc.length := by omega
      refine goQ [lF lc.length lc.length (by omega)] (HG.rs _ _ _ _ _ _ _) I fun β13 a13 w13 I hb13 => ?_
      refine endE 0 ?_
      refine goQ [kC Try.func8 haw] (HG.rs _ _ _ _ _ _ _) (I.exit _) fun β14 a14 w14 I hb14 => ?_
      exact outQ (v := .bool true) I ⟨rfl, I.hJ.hs.bw⟩
end Go.Proofs.Ytpjplicioidknaa
