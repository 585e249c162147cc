/- The program's Bind: the walk. -/
import Derived.Test.YtdiblfgnnliifaaTn
namespace Go.Proofs.Ytdiblfgnnliifaa
open Go.RowKit Go.Sort
set_option linter.unusedVariables false
set_option maxRecDepth 100000
theorem bd47 (x y : Int) (w : World) : (Instr.build 47 (([0, 1] : List Nat).zip [Z x, Z y]).toArray).run Try.prog w = .ok (.agg #[Z x, Z y]) w := by kernel_rfl
theorem bd54 (x y : Nat) (w : World) : (Instr.build 54 (([0, 1] : List Nat).zip [U x, U y]).toArray).run Try.prog w = .ok (.agg (sh8 x y)) w := by
  unfold U
  generalize l0 x = x0
  generalize l1 x = x1
  generalize l2 x = x2
  generalize l3 x = x3
  generalize l0 y = y0
  generalize l1 y = y1
  generalize l2 y = y2
  generalize l3 y = y3
  kernel_rfl
theorem bd39 (d : ByteArray) (n : Nat) (le ri : ByteArray) (w : World) : (Instr.build 39 (([0, 1, 2, 3, 4] : List Nat).zip [.string d, U n, Z 1, .string le, .string ri]).toArray).run Try.prog w = .ok (alV (d, n, 1, le, ri)) w := by
  unfold U alV al8
  simp only []
  generalize l0 n = x0
  generalize l1 n = x1
  generalize l2 n = x2
  generalize l3 n = x3
  kernel_rfl
theorem SI.dropO {w0 : World} {b : Nat} {K : Nat → Prop} {Fs : List Lf} {O : List Ow} {ds : List Deferred} {β : Nat → Nat} {c : Cf} {a : Act} {w : World} (I : SI (GS w0 w0 b noK K Fs O) (GF noK K O) ds β c a w) : SI (GS w0 w0 b noK K Fs []) (GF noK K []) ds β c a w := I.chg I.hJ.drop fun k hk => by
  rcases hk with hk | ⟨o, ho, _⟩ | hk
  · exact .inl hk
  · cases ho
  · exact .inr (.inr hk)
/-- Of none nothing is bound. -/
theorem bd_both0 {β : Nat → Nat} {w0 : World} {bb : Nat} {K : Nat → Prop} {Fs : List Lf} {vl vo : Value} {O : List Ow} {l : List Al} {ch : ByteArray} {i j : Int} {a b : Nat} {gf q jf : Nat} {w : World} (hn : l.length = 0) (H : CR β w0 bb K Fs (bdW vl ch i j a b vo) O w)
    (hf : Fs[jf]? = some (fnF gf (fBd β))) (hi : Fs[q]? = some (alF vl l)) :
    Calls Try.prog 24 #[.slice (some ⟨gf, 0, none⟩) 3 3] w fun e w' => e = .returned (Z 3) ∧ CR β w0 bb K Fs [(0, #[vl])] [] w' := by
  refine (both_any (w := w) (g := gf) (M := 3) (by decide) (fun i => if i = 0 then 28 else if i = 1 then 30 else 32) (fun i => if i = 0 then [ptr0 (β 0), ptr0 (β 7), ptr0 (β 2), ptr0 (β 3)] else if i = 1 then [ptr0 (β 1), ptr0 (β 0), ptr0 (β 7)] else [ptr0 (β 6), ptr0 (β 7), ptr0 (β 8)])
    (fun k w' => k = 0 ∧ CR β w0 bb K Fs (bdW vl ch i j a b vo) O w') (fun k => CF β K (bdW vl ch i j a b vo) O) (fun k => (CR.rs _ _ _ _ _ _ _).and _)
    (fun er w' => er = 3 ∧ CR β w0 bb K Fs [(0, #[vl])] [] w') (CF β K [(0, #[vl])] []) (fun er => (CR.rs _ _ _ _ _ _ _).and _) (fun t hi2 => ?_) (fun t k w' hi2 hs => ?_) (fun t s w' hi2 hs hS => ?_) ⟨rfl, H⟩).mono fun e w' he => ?_
  · rcases (by omega : t = 0 ∨ t = 1 ∨ t = 2) with rfl | rfl | rfl
    · exact ⟨_, Try.func28, by kernel_rfl, by kernel_rfl⟩
    · exact ⟨_, Try.func30, by kernel_rfl, by kernel_rfl⟩
    · exact ⟨_, Try.func32, by kernel_rfl, by kernel_rfl⟩
  · rcases (by omega : t = 0 ∨ t = 1 ∨ t = 2) with rfl | rfl | rfl
    · exact fn_ld hs.2.g hf rfl
    · exact fn_ld hs.2.g hf rfl
    · exact fn_ld hs.2.g hf rfl
  · obtain ⟨h0, hC⟩ := hS
    obtain rfl : t = 0 := by omega
    obtain rfl : s = 0 := by omega
    refine (placed0 hC hi).mono fun e w2 he => ?_
    obtain ⟨rfl, hC2⟩ := he
    have hP : isP l i = false := by
      cases hq : isP l i with
      | false => rfl
      | true =>
        obtain ⟨n, _, h⟩ := isP_nat hq
        omega
    exact .inr ⟨3, by decide, by rw [hP]; rfl, rfl, hC2.less _ (by simp)⟩
  · rcases he with ⟨_, h, _⟩ | ⟨er, her, rfl, rfl, hC⟩
    · cases h
    · exact ⟨rfl, hC⟩
set_option maxHeartbeats 4000000 in
theorem bind_any {w : World} {v : Value} {l : List Al} (hv : AlI w v l) (hl : l.length ≤ 1000) (ch : ByteArray) (i j : Int) {a b : Nat} (ha : a < W) (hb : b < W) :
    Calls Try.prog 11 #[v, .string ch, Z i, Z j, U a, U b] w fun e w' => ∃ v', e = .returned (.tuple #[v', Z (bdE l ch.size i j a b)]) ∧ NW w [alF v' (bdR l ch i j a b)] w' := by
  have hL : Lt l := fun x hx => ali_lt hv hx
  obtain ⟨ad, cap, hv0⟩ := hv.slice
  subst hv0
  refine inQ (J := GS w w w.heap.size noK (· < w.heap.size) [alF (.slice ad l.length cap) l] []) (F := GF noK (· < w.heap.size) []) Try.func11 (GS.start w fun f hf => by
    rw [List.mem_singleton.1 hf]; exact hv) fun ac I => ?_
  refine goQ [] (GS.rsr _ _ _ _ _ _ _) I fun β1 a1 w1 I hb1 => ?_
  refine copyO (i := 0) rfl hl I fun gc ado capo a2 w2 I => ?_
  refine goQ [] (GS.rsr _ _ _ _ _ _ _) I fun β3 a3 w3 I hb3 => ?_
  refine dwP (T := fun _ => True) 6 8 7 9 47 54 15 16 29 32 #[Z 0, Z 0] (sh8 0 0) (.agg #[Z i, Z j]) (.agg (sh8 a b)) [dO 47 [0, 1] (bd47 i j), dO 54 [0, 1] (bd54 a b)] (GS.rsr _ _ _ _ _ _ _) (fun _ _ => trivial) I fun b1 b2 vs β4 a4 w4 hb4 I => ?_
  refine goQ [] (GS.rsr _ _ _ _ _ _ _) I fun β5 a5 w5 I hb5 => ?_
  obtain ⟨g0, h0⟩ : ∃ t, β5 0 = t := ⟨_, rfl⟩
  obtain ⟨g1, h1⟩ : ∃ t, β5 1 = t := ⟨_, rfl⟩
  obtain ⟨g2, h2⟩ : ∃ t, β5 2 = t := ⟨_, rfl⟩
  obtain ⟨g3, h3⟩ : ∃ t, β5 3 = t := ⟨_, rfl⟩
  obtain ⟨g4, h4⟩ : ∃ t, β5 4 = t := ⟨_, rfl⟩
  obtain ⟨g5, h5⟩ : ∃ t, β5 5 = t := ⟨_, rfl⟩
  obtain ⟨g6, h6⟩ : ∃ t, β5 6 = t := ⟨_, rfl⟩
  obtain ⟨g7, h7⟩ : ∃ t, β5 7 = t := ⟨_, rfl⟩
  obtain ⟨g8, h8⟩ : ∃ t, β5 8 = t := ⟨_, rfl⟩
  refine mkfX (fn := .func 28) (ss := [Sum.inr (0, 0), Sum.inr (7, 0), Sum.inr (2, 0), Sum.inr (3, 0)]) I ?_
  have I6 := I.same (.func (.func 28) #[] (([Sum.inr (0, 0), Sum.inr (7, 0), Sum.inr (2, 0), Sum.inr (3, 0)] : List SV).map (up β5)).toArray)
  have ea : (([Sum.inr (0, 0), Sum.inr (7, 0), Sum.inr (2, 0), Sum.inr (3, 0)] : List SV).map (up β5)).toArray = #[ptr0 g0, ptr0 g7, ptr0 g2, ptr0 g3] := by rw [← h0, ← h2, ← h3, ← h7]; rfl
  rw [ea] at I6 ⊢
  clear I ea
  refine goQ [] (GS.rsr _ _ _ _ _ _ _) I6 fun β7 a7 w7 I hb7 => ?_
  have h0 := agr hb7 0 h0
  have h1 := agr hb7 1 h1
  have h2 := agr hb7 2 h2
  have h3 := agr hb7 3 h3
  have h4 := agr hb7 4 h4
  have h5 := agr hb7 5 h5
  have h6 := agr hb7 6 h6
  have h7 := agr hb7 7 h7
  have h8 := agr hb7 8 h8
  refine mkfX (fn := .func 30) (ss := [Sum.inr (1, 0), Sum.inr (0, 0), Sum.inr (7, 0)]) I ?_
  have I8 := I.same (.func (.func 30) #[] (([Sum.inr (1, 0), Sum.inr (0, 0), Sum.inr (7, 0)] : List SV).map (up β7)).toArray)
  have ea : (([Sum.inr (1, 0), Sum.inr (0, 0), Sum.inr (7, 0)] : List SV).map (up β7)).toArray = #[ptr0 g1, ptr0 g0, ptr0 g7] := by rw [← h0, ← h1, ← h7]; rfl
  rw [ea] at I8 ⊢
  clear I ea
  clear I6
  refine goQ [] (GS.rsr _ _ _ _ _ _ _) I8 fun β9 a9 w9 I hb9 => ?_
  have h0 := agr hb9 0 h0
  have h1 := agr hb9 1 h1
  have h2 := agr hb9 2 h2
  have h3 := agr hb9 3 h3
  have h4 := agr hb9 4 h4
  have h5 := agr hb9 5 h5
  have h6 := agr hb9 6 h6
  have h7 := agr hb9 7 h7
  have h8 := agr hb9 8 h8
  refine mkfX (fn := .func 32) (ss := [Sum.inr (6, 0), Sum.inr (7, 0), Sum.inr (8, 0)]) I ?_
  have I10 := I.same (.func (.func 32) #[] (([Sum.inr (6, 0), Sum.inr (7, 0), Sum.inr (8, 0)] : List SV).map (up β9)).toArray)
  have ea : (([Sum.inr (6, 0), Sum.inr (7, 0), Sum.inr (8, 0)] : List SV).map (up β9)).toArray = #[ptr0 g6, ptr0 g7, ptr0 g8] := by rw [← h6, ← h7, ← h8]; rfl
  rw [ea] at I10 ⊢
  clear I ea
  clear I8
  refine goQ [] (GS.rsr _ _ _ _ _ _ _) I10 fun β11 a11 w11 I hb11 => ?_
  have h0 := agr hb11 0 h0
  have h1 := agr hb11 1 h1
  have h2 := agr hb11 2 h2
  have h3 := agr hb11 3 h3
  have h4 := agr hb11 4 h4
  have h5 := agr hb11 5 h5
  have h6 := agr hb11 6 h6
  have h7 := agr hb11 7 h7
  have h8 := agr hb11 8 h8
  clear I10
  refine bslQ (ss := [(0, Sum.inl (.func (.func 28) #[] #[ptr0 g0, ptr0 g7, ptr0 g2, ptr0 g3])), (1, Sum.inl (.func (.func 30) #[] #[ptr0 g1, ptr0 g0, ptr0 g7])), (2, Sum.inl (.func (.func 32) #[] #[ptr0 g6, ptr0 g7, ptr0 g8]))]) I (bs62_3 _ _ _ _ _ _ _ _ _ _ w11) ?_
  obtain ⟨K9, I⟩ := I.gs (nw_fn #[.func (.func 28) #[] #[ptr0 g0, ptr0 g7, ptr0 g2, ptr0 g3], .func (.func 30) #[] #[ptr0 g1, ptr0 g0, ptr0 g7], .func (.func 32) #[] #[ptr0 g6, ptr0 g7, ptr0 g8]] w11) (.slice (some ⟨w11.heap.size, 0, none⟩) 3 3)
  generalize w11.heap.size = gf at *
  have ef : (#[.func (.func 28) #[] #[ptr0 g0, ptr0 g7, ptr0 g2, ptr0 g3], .func (.func 30) #[] #[ptr0 g1, ptr0 g0, ptr0 g7], .func (.func 32) #[] #[ptr0 g6, ptr0 g7, ptr0 g8]] : Array Value) = fBd β11 := by unfold fBd; rw [h0, h1, h2, h3, h6, h7, h8]
  by_cases h00 : l.length = 0
  · refine mcall (f := 24) (ss := [Sum.inl (.slice (some ⟨gf, 0, none⟩) 3 3)]) Try.func24 I ((bd_both0 (q := 1) (jf := 0) (l := l) (ch := ch) (i := i) (j := j) (a := a) (b := b) h00 (I.cr 9 (ag0 9 β11) (bdW (.slice ad l.length cap) ch i j a b (.slice ado l.length capo))) (by rw [← ef]; rfl) rfl).mono fun e w12 he => ?_)
    obtain ⟨rfl, hB2⟩ := he
    have hP : isP l i = false := by
      cases hq : isP l i with
      | false => rfl
      | true =>
        obtain ⟨n, _, h⟩ := isP_nat hq
        omega
    have e1 : bdE l ch.size i j a b = 3 := by
      unfold bdE
      rw [if_pos (.inl hP)]
    have e2 : bdR l ch i j a b = l := by
      unfold bdR
      rw [e1, if_pos (by decide)]
    rw [e1, e2]
    have I13 := I.ofCR hB2 (Z 3)
    refine atRows [(0, #[.slice ad l.length cap])] ?_
    clear I hB2
    refine goQ [bO .neq 28 (run_neE (x := 3) (y := 0) (b := true) rfl)] (GS.rsr _ _ _ _ _ _ _) I13 fun β14 a14 w14 I hb14 => ?_
    refine copyO (i := 1) rfl hl I fun gc ad2 cap2 a15 w15 I => ?_
    refine goQ [] (GS.rsr _ _ _ _ _ _ _) I fun β16 a16 w16 I hb16 => ?_
    exact outQ (v := .tuple #[.slice ad2 l.length cap2, Z 3]) I ⟨_, rfl, I.hJ.newA hL⟩
  obtain ⟨go, hgo⟩ := I.hJ.blk (by omega)
  subst hgo
  refine mcall (f := 24) (ss := [Sum.inl (.slice (some ⟨gf, 0, none⟩) 3 3)]) Try.func24 I ((bd_both (q := 1) (jf := 0) (l := l) (ch := ch) (i := i) (j := j) (a := a) (b := b) rfl (I.cr 9 (ag0 9 β11) (bdW (.slice ad l.length cap) ch i j a b (.slice (some ⟨go, 0, none⟩) l.length capo))) (by rw [← ef]; rfl) rfl hL (by omega) ha hb).mono fun e w12 he => ?_)
  obtain ⟨rfl, hA, hB⟩ := he
  rw [bdE_is]
  by_cases hS : bsE l ch.size i j a b = 0
  · have hA2 := hA hS
    clear hA hB
    have hbs := hS
    unfold bsE at hbs
    by_cases q1 : isP l i = false ∨ isP l j = false ∨ i = j
    · rw [if_pos q1] at hbs; cases hbs
    rw [if_neg q1] at hbs
    by_cases q2 : ch.size ≠ 32 ∨ kdP l i = true ∨ kdP l j = true
    · rw [if_pos q2] at hbs; cases hbs
    rw [if_neg q2] at hbs
    by_cases q3 : am l i.toNat < a ∨ am l j.toNat < b
    · rw [if_pos q3] at hbs; cases hbs
    obtain ⟨ni, rfl, hil⟩ := isP_nat (l := l) (k := i) (by
      cases hq : isP l i with
      | true => rfl
      | false => exact absurd (.inl hq) q1)
    obtain ⟨nj, rfl, hjl⟩ := isP_nat (l := l) (k := j) (by
      cases hq : isP l j with
      | true => rfl
      | false => exact absurd (.inr (.inl hq)) q1)
    have e2 : bdR l ch ni nj a b = if (if W ≤ a + b then (7 : Int) else if 8 ≤ l.length then 8 else 0) ≠ 0 then l else bdL l ch ni nj a b := by
      have eE : bdE l ch.size ni nj a b = if W ≤ a + b then (7 : Int) else if 8 ≤ l.length then 8 else 0 := by rw [bdE_is, if_neg (fun h => h hS)]
      unfold bdR
      rw [eE, Int.toNat_natCast, Int.toNat_natCast]
    rw [e2, if_neg (fun h => h hS)]
    rw [hS, Int.toNat_natCast, Int.toNat_natCast] at *
    have hml : (bdM l ni nj a b).length = l.length := by rw [stA_len, stA_len]
    have hmL : Lt (bdM l ni nj a b) := stA_lt (stA_lt hL _ (by have := am_lt hL ni; omega)) _ (by have := am_lt hL nj; omega)
    have ebl : bdL l ch ni nj a b = bdM l ni nj a b ++ [(ch, a + b, 1, (l.getD ni aD).1, (l.getD nj aD).1)] := rfl
    rw [ebl]
    generalize bdM l ni nj a b = l2 at *
    have I13 := I.ofCR hA2 (Z 0)
    refine atRows (bdW (.slice ad l.length cap) ch ni nj a b (.slice (some ⟨go, 0, none⟩) l.length capo)) ?_
    clear I hA2
    obtain ⟨qo, hqo⟩ : ∃ q, decide (W ≤ a + b) = q := ⟨_, rfl⟩
    have hadd := addT add_any ha hb hqo
    cases qo with
    | true =>
      rw [if_pos (of_decide_eq_true hqo), if_pos (by decide)]
      generalize (a + b) % W = s2 at *
      refine goQ [bO .neq 28 (run_neE (x := 0) (y := 0) (b := false) rfl), kC Try.func23 hadd] (GS.rsr _ _ _ _ _ _ _) I13 fun β14 a14 w14 I hb14 => ?_
      refine copyO (i := 1) rfl hl I.dropO fun gc ad2 cap2 a15 w15 I => ?_
      refine goQ [] (GS.rsr _ _ _ _ _ _ _) I fun β16 a16 w16 I hb16 => ?_
      exact outQ (v := .tuple #[.slice ad2 l.length cap2, Z 7]) I ⟨_, rfl, I.hJ.newA hL⟩
    | false =>
      have hlt : a + b < W := by have := of_decide_eq_false hqo; omega
      rw [if_neg (of_decide_eq_false hqo)]
      rw [Nat.mod_eq_of_lt hlt] at hadd
      by_cases h8 : 8 ≤ l.length
      · rw [if_pos h8, if_pos (by decide)]
        refine goQ [bO .neq 28 (run_neE (x := 0) (y := 0) (b := false) rfl), kC Try.func23 hadd, lnA ad l.length cap, bO .geq 3 (run_geqZ (x := l.length) (y := 8) (b := true) (decide_eq_true (by omega)))] (GS.rsr _ _ _ _ _ _ _) I13 fun β14 a14 w14 I hb14 => ?_
        refine copyO (i := 1) rfl hl I.dropO fun gc ad2 cap2 a15 w15 I => ?_
        refine goQ [] (GS.rsr _ _ _ _ _ _ _) I fun β16 a16 w16 I hb16 => ?_
        exact outQ (v := .tuple #[.slice ad2 l.length cap2, Z 8]) I ⟨_, rfl, I.hJ.newA hL⟩
      · rw [if_neg h8, if_neg (fun h => h rfl)]
        refine goQ [bO .neq 28 (run_neE (x := 0) (y := 0) (b := false) rfl), kC Try.func23 hadd, lnA ad l.length cap, bO .geq 3 (run_geqZ (x := l.length) (y := 8) (b := false) (decide_eq_false (by omega)))] (GS.rsr _ _ _ _ _ _ _) I13 fun β14 a14 w14 I hb14 => ?_
        obtain ⟨x, hx⟩ : ∃ t, l[ni]? = some t := ⟨_, List.getElem?_eq_getElem hil⟩
        obtain ⟨y, hy⟩ : ∃ t, l[nj]? = some t := ⟨_, List.getElem?_eq_getElem hjl⟩
        rw [getD_is hx, getD_is hy]
        obtain ⟨ad', cap', he, hm⟩ := id hv
        cases he
        obtain ⟨ga, off, cs, rfl, hlt2, hca, rfl, _⟩ := hm ni x hx
        obtain ⟨ga2, off2, cs2, he2, hlt3, hcb, rfl, _⟩ := hm nj y hy
        cases he2
        have hT1 : ∀ w', GS w w w.heap.size noK K9 ([fnF gf #[.func (.func 28) #[] #[ptr0 g0, ptr0 g7, ptr0 g2, ptr0 g3], .func (.func 30) #[] #[ptr0 g1, ptr0 g0, ptr0 g7], .func (.func 32) #[] #[ptr0 g6, ptr0 g7, ptr0 g8]]] ++ [alF (.slice (some ⟨ga, off, none⟩) l.length cap) l]) [alO (.slice (some ⟨go, 0, none⟩) l.length capo) l2] w' → (loadVar 9 ⟨ga, off + ni * 8 + 0, none⟩).run Try.prog w' = .ok (.string x.1) w' := fun w' h => loadD (hca.keep (h.bw.block ga hlt2))
        have hT2 : ∀ w', GS w w w.heap.size noK K9 ([fnF gf #[.func (.func 28) #[] #[ptr0 g0, ptr0 g7, ptr0 g2, ptr0 g3], .func (.func 30) #[] #[ptr0 g1, ptr0 g0, ptr0 g7], .func (.func 32) #[] #[ptr0 g6, ptr0 g7, ptr0 g8]]] ++ [alF (.slice (some ⟨ga, off, none⟩) l.length cap) l]) [alO (.slice (some ⟨go, 0, none⟩) l.length capo) l2] w' → (loadVar 9 ⟨ga, off + nj * 8 + 0, none⟩).run Try.prog w' = .ok (.string y.1) w' := fun w' h => loadD (hcb.keep (h.bw.block ga hlt2))
        generalize x.1 = dx at *
        generalize y.1 = dy at *
        refine dwL (T := GS w w w.heap.size noK K9 ([fnF gf #[.func (.func 28) #[] #[ptr0 g0, ptr0 g7, ptr0 g2, ptr0 g3], .func (.func 30) #[] #[ptr0 g1, ptr0 g0, ptr0 g7], .func (.func 32) #[] #[ptr0 g6, ptr0 g7, ptr0 g8]]] ++ [alF (.slice (some ⟨ga, off, none⟩) l.length cap) l]) [alO (.slice (some ⟨go, 0, none⟩) l.length capo) l2]) 13 39 23 #[.string ⟨#[]⟩, B 0, B 0, B 0, B 0, Z 0, .string ⟨#[]⟩, .string ⟨#[]⟩] [ixA ga off l.length cap ni hil, ldA 9 hT1, ixA ga off l.length cap nj hjl, ldA 9 hT2, dO 39 [0, 1, 2, 3, 4] (bd39 ch (a + b) dx dy)] (GS.rsr _ _ _ _ _ _ _) (fun _ h => h) I fun b5 vs5 β15 a15 w15 hb15 I => ?_
        refine goQ [] (GS.rsr _ _ _ _ _ _ _) I fun β16 a16 w16 I hb16 => ?_
        refine app_al [] [] (ch, a + b, 1, dx, dy) rfl I hml (by omega) fun ad8 cap8 a17 w17 I => ?_
        refine goQ [] (GS.rsr _ _ _ _ _ _ _) I fun β18 a18 w18 I hb18 => ?_
        refine outQ (v := .tuple #[.slice ad8 (l.length + 1) cap8, Z 0]) I ⟨_, rfl, I.hJ.newA fun t ht => ?_⟩
        rcases List.mem_append.1 ht with ht | ht
        · exact hmL t ht
        · rw [List.mem_singleton.1 ht]; exact hlt
  · have hB2 := hB hS
    clear hA hB
    have e2 : bdR l ch i j a b = l := by
      unfold bdR
      rw [bdE_is, if_pos hS, if_pos hS]
    rw [e2, if_pos hS]
    generalize bsE l ch.size i j a b = E at *
    have I13 := I.ofCR hB2 (Z E)
    refine atRows [(0, #[.slice ad l.length cap])] ?_
    clear I hB2
    refine goQ [bO .neq 28 (run_neE (x := E) (y := 0) (b := true) (decide_eq_true hS))] (GS.rsr _ _ _ _ _ _ _) I13 fun β14 a14 w14 I hb14 => ?_
    refine copyO (i := 1) rfl hl I fun gc ad2 cap2 a15 w15 I => ?_
    refine goQ [] (GS.rsr _ _ _ _ _ _ _) I fun β16 a16 w16 I hb16 => ?_
    exact outQ (v := .tuple #[.slice ad2 l.length cap2, Z E]) I ⟨_, rfl, I.hJ.newA hL⟩
end Go.Proofs.Ytdiblfgnnliifaa
