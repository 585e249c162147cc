/- The program's Reclaim. -/
import Derived.Test.YtdiblfgnnliifaaTh
namespace Go.Proofs.Ytdiblfgnnliifaa
open Go.RowKit Go.Sort
set_option linter.unusedVariables false
set_option maxRecDepth 100000
theorem ixZ_neg {p : Al → Bool} {l : List Al} (h : ixZ p l < 0) : l.length ≤ ixN p l := by
  unfold ixZ at h
  split at h
  · omega
  · omega
theorem ixZ_pos {p : Al → Bool} {l : List Al} (h : ¬ ixZ p l < 0) : ixZ p l = (ixN p l : Nat) ∧ ixN p l < l.length := by
  unfold ixZ at h ⊢
  by_cases hl : ixN p l < l.length
  · rw [if_pos hl]; exact ⟨rfl, hl⟩
  · rw [if_neg hl] at h; omega
theorem ixZ_pl {d : ByteArray} {l : List Al} (h : ¬ ixZ (plP d) l < 0) : ixZ (plP d) l = (pl l d : Nat) ∧ pl l d < l.length := ixZ_pos h
theorem ixZ_pln {d : ByteArray} {l : List Al} (h : ixZ (plP d) l < 0) : l.length ≤ pl l d := ixZ_neg h
/-- What holds, which rows and which row of one's own there are behind so many steps. -/
def rcP (l : List Al) (dL dR : ByteArray) (a b : Nat) : Nat → Prop
  | 0 => True
  | 1 => ¬ ixZ (plP dL) l < 0
  | 2 => ¬ ixZ (plP dL) l < 0 ∧ ¬ ixZ (plP dR) l < 0
  | 3 => (¬ ixZ (plP dL) l < 0 ∧ ¬ ixZ (plP dR) l < 0) ∧ am l (pl l dL) + a < W
  | _ => sdE l (pl l dL) (pl l dR) a b = 0
def rcRs (vl vi vo : Value) (l : List Al) (dL dR : ByteArray) : Nat → Rows
  | 0 => rcR vl vi vo dL dR 0 0
  | 1 => rcR vl vi vo dL dR (ixZ (plP dL) l) 0
  | _ => rcR vl vi vo dL dR (ixZ (plP dL) l) (ixZ (plP dR) l)
def rcO (l : List Al) (p q a b : Nat) : Nat → List Al
  | 0 => l
  | 1 => l
  | 2 => l
  | 3 => stA l p (am l p + a)
  | _ => sdL l p q a b
abbrev fRc (β : Nat → Nat) : Array Value := #[.func (.func 19) #[] #[ptr0 (β 0), ptr0 (β 3), ptr0 (β 4)], .func (.func 22) #[] #[ptr0 (β 2), ptr0 (β 4), ptr0 (β 1)]]
set_option maxHeartbeats 1000000 in
theorem rc_both {β : Nat → Nat} {w0 : World} {b : Nat} {K : Nat → Prop} {Fs : List Lf} {vl vi : Value} {l : List Al} {dL dR : ByteArray} {y0 y1 : Al} {g cap n gf i j jf : Nat} {w : World} (hn : l.length = n) (H : CR β w0 b K Fs (rcR vl vi (.slice (some ⟨g, 0, none⟩) n cap) dL dR 0 0) [alO (.slice (some ⟨g, 0, none⟩) n cap) l] w)
    (hf : Fs[jf]? = some (fnF gf (fRc β))) (hi : Fs[i]? = some (alF vl l)) (hj : Fs[j]? = some (alF vi [y0, y1])) (hL : Lt l) (hl : l.length < 1000000000) :
    Calls Try.prog 24 #[.slice (some ⟨gf, 0, none⟩) 2 2] w fun e w' => e = .returned (Z (sdE l (pl l dL) (pl l dR) y0.2.1 y1.2.1)) ∧ (sdE l (pl l dL) (pl l dR) y0.2.1 y1.2.1 = 0 → CR β w0 b K Fs (rcRs vl vi (.slice (some ⟨g, 0, none⟩) n cap) l dL dR 2) [alO (.slice (some ⟨g, 0, none⟩) n cap) (sdL l (pl l dL) (pl l dR) y0.2.1 y1.2.1)] w') ∧ (sdE l (pl l dL) (pl l dR) y0.2.1 y1.2.1 ≠ 0 → CR β w0 b K Fs [(0, #[vl])] [] w') := by
  obtain ⟨E, hE⟩ : ∃ E, sdE l (pl l dL) (pl l dR) y0.2.1 y1.2.1 = E := ⟨_, rfl⟩
  rw [hE]
  have hE' := hE
  unfold sdE at hE'
  refine (both_any (w := w) (g := gf) (M := 2) (by decide) (fun i => if i = 0 then 19 else 22) (fun i => if i = 0 then [ptr0 (β 0), ptr0 (β 3), ptr0 (β 4)] else [ptr0 (β 2), ptr0 (β 4), ptr0 (β 1)])
    (fun k w' => rcP l dL dR y0.2.1 y1.2.1 k ∧ CR β w0 b K Fs (rcRs vl vi (.slice (some ⟨g, 0, none⟩) n cap) l dL dR k) [alO (.slice (some ⟨g, 0, none⟩) n cap) (rcO l (pl l dL) (pl l dR) y0.2.1 y1.2.1 k)] w') (fun k => CF β K (rcRs vl vi (.slice (some ⟨g, 0, none⟩) n cap) l dL dR k) [alO (.slice (some ⟨g, 0, none⟩) n cap) (rcO l (pl l dL) (pl l dR) y0.2.1 y1.2.1 k)]) (fun k => (CR.rs _ _ _ _ _ _ _).and _)
    (fun er w' => er = E ∧ CR β w0 b K Fs [(0, #[vl])] [] w') (CF β K [(0, #[vl])] []) (fun er => (CR.rs _ _ _ _ _ _ _).and _) (fun i hi2 => ?_) (fun i k w' hi2 hs => ?_) (fun i s w' hi2 hs hS => ?_) ⟨trivial, H⟩).mono fun e w' he => ?_
  · rcases (by omega : i = 0 ∨ i = 1) with rfl | rfl
    · exact ⟨_, Try.func19, by kernel_rfl, by kernel_rfl⟩
    · exact ⟨_, Try.func22, by kernel_rfl, by kernel_rfl⟩
  · rcases (by omega : i = 0 ∨ i = 1) with rfl | rfl
    · exact fn_ld hs.2.g hf rfl
    · exact fn_ld hs.2.g hf rfl
  · rcases (by omega : i = 0 ∨ i = 1) with rfl | rfl <;> rcases (by omega : s = 0 ∨ s = 1) with rfl | rfl
    · refine (find0 hS.2 hi hl).mono fun e w2 he => ?_
      obtain ⟨rfl, hC⟩ := he
      by_cases hz : ixZ (plP dL) l < 0
      · refine .inr ⟨9, by decide, by rw [decide_eq_true hz]; rfl, ?_, hC.less _ (by simp)⟩
        rw [← hE', if_pos (.inl (ixZ_pln hz))]
      · exact .inl ⟨by rw [decide_eq_false hz]; rfl, hz, hC⟩
    · refine (find1 hS.2 hi hl).mono fun e w2 he => ?_
      obtain ⟨rfl, hC⟩ := he
      by_cases hz : ixZ (plP dR) l < 0
      · refine .inr ⟨9, by decide, by rw [decide_eq_true hz]; rfl, ?_, hC.less _ (by simp)⟩
        rw [← hE', if_pos (.inr (ixZ_pln hz))]
      · exact .inl ⟨by rw [decide_eq_false hz]; rfl, ⟨hS.1, hz⟩, hC⟩
    · obtain ⟨⟨hz0, hz1⟩, hC0⟩ := hS
      obtain ⟨e0, hp⟩ := ixZ_pl hz0
      obtain ⟨e1, hq⟩ := ixZ_pl hz1
      subst hn
      refine (give0 hC0 hj e0 hp hL).mono fun e w2 he => ?_
      obtain ⟨rfl, hC⟩ := he
      rw [if_neg (by omega)] at hE'
      by_cases ho : W ≤ am l (pl l dL) + y0.2.1
      · refine .inr ⟨7, by decide, by rw [decide_eq_true ho]; rfl, ?_, hC.less _ (by simp)⟩
        rw [← hE', if_pos ho]
      · rw [Nat.mod_eq_of_lt (by omega)] at hC
        exact .inl ⟨by rw [decide_eq_false ho]; rfl, ⟨⟨hz0, hz1⟩, by omega⟩, hC⟩
    · obtain ⟨⟨⟨hz0, hz1⟩, ho0⟩, hC0⟩ := hS
      obtain ⟨e0, hp⟩ := ixZ_pl hz0
      obtain ⟨e1, hq⟩ := ixZ_pl hz1
      have hL2 : Lt (stA l (pl l dL) (am l (pl l dL) + y0.2.1)) := stA_lt hL _ ho0
      have hn2 := stA_len l (pl l dL) (am l (pl l dL) + y0.2.1)
      rw [hn] at hn2
      have hC0' : CR β w0 b K Fs (rcR vl vi (.slice (some ⟨g, 0, none⟩) n cap) dL dR (ixZ (plP dL) l) (ixZ (plP dR) l)) [alO (.slice (some ⟨g, 0, none⟩) n cap) (stA l (pl l dL) (am l (pl l dL) + y0.2.1))] w' := hC0
      rw [if_neg (by omega), if_neg (by omega)] at hE'
      rw [← hn2] at hC0'
      refine (give1 hC0' hj e1 (by rw [stA_len]; exact hq) hL2).mono fun e w2 he => ?_
      obtain ⟨rfl, hC⟩ := he
      rw [hn2] at hC
      by_cases ho : W ≤ am (stA l (pl l dL) (am l (pl l dL) + y0.2.1)) (pl l dR) + y1.2.1
      · refine .inr ⟨7, by decide, by rw [decide_eq_true ho]; rfl, ?_, hC.less _ (by simp)⟩
        rw [← hE', if_pos ho]
      · rw [Nat.mod_eq_of_lt (by omega)] at hC
        refine .inl ⟨by rw [decide_eq_false ho]; rfl, ?_, hC⟩
        show sdE l (pl l dL) (pl l dR) y0.2.1 y1.2.1 = 0
        rw [hE, ← hE', if_neg ho]
  · rcases he with ⟨rfl, hS⟩ | ⟨er, her, rfl, rfl, hC⟩
    · have h0 : E = 0 := hE ▸ hS.1
      rw [h0]
      exact ⟨rfl, fun _ => hS.2, fun h => absurd rfl h⟩
    · exact ⟨rfl, fun h => absurd h her, fun _ => hC⟩
theorem loadL {w : World} {g o : Nat} {c : Al} (h : CellsAt w g o (al8 c)) : (loadVar 9 ⟨g, o + 6, none⟩).run Try.prog w = .ok (.string c.2.2.2.1) w := load1 h 6 rfl 9 Try.underlying9 rfl
theorem loadR {w : World} {g o : Nat} {c : Al} (h : CellsAt w g o (al8 c)) : (loadVar 9 ⟨g, o + 7, none⟩).run Try.prog w = .ok (.string c.2.2.2.2) w := load1 h 7 rfl 9 Try.underlying9 rfl
theorem bd46 (x y : ByteArray) (w : World) : (Instr.build 46 (([0, 1] : List Nat).zip [.string x, .string y]).toArray).run Try.prog w = .ok (.agg #[.string x, .string y]) w := by kernel_rfl
/-- What is known where nothing is refused. -/
theorem rf_zero {l s : List Al} {k : Int} (h : rfE l k s = 0) : ∃ (i : Nat) (x y0 y1 : Al), k = i ∧ l[i]? = some x ∧ x.2.2.1 = 1 ∧ s = [y0, y1] ∧ npP y0 = false ∧ npP y1 = false ∧ y0.2.1 + y1.2.1 < W ∧ y0.2.1 + y1.2.1 = x.2.1 := by
  unfold rfE at h
  cases hP : isP l k with
  | false => rw [hP, if_pos rfl] at h; cases h
  | true =>
    rw [hP, if_neg (by decide)] at h
    obtain ⟨i, rfl, hi⟩ := isP_nat hP
    obtain ⟨x, hx⟩ : ∃ t, l[i]? = some t := ⟨_, List.getElem?_eq_getElem hi⟩
    rw [Int.toNat_natCast, getD_is hx, am_is hx] at h
    by_cases h2 : x.2.2.1 ≠ 1 ∨ s.length ≠ 2 ∨ s.any npP = true
    · rw [if_pos h2] at h; cases h
    · rw [if_neg h2] at h
      obtain ⟨y0, y1, rfl⟩ := two_of (Classical.not_not.1 fun q => h2 (.inr (.inl q)))
      have ha : ([y0, y1] : List Al).any npP = false := by
        cases hq : ([y0, y1] : List Al).any npP with
        | false => rfl
        | true => exact absurd (.inr (.inr hq)) h2
      simp only [List.any_cons, List.any_nil, Bool.or_false, Bool.or_eq_false_iff] at ha
      have e0 : am [y0, y1] 0 = y0.2.1 := rfl
      have e1 : am [y0, y1] 1 = y1.2.1 := rfl
      rw [e0, e1] at h
      by_cases h3 : W ≤ y0.2.1 + y1.2.1 ∨ y0.2.1 + y1.2.1 ≠ x.2.1
      · rw [if_pos h3] at h; cases h
      · exact ⟨i, x, y0, y1, rfl, hx, Classical.not_not.1 fun q => h2 (.inl q), rfl, ha.1, ha.2, by omega, Classical.not_not.1 fun q => h3 (.inr q)⟩
set_option maxHeartbeats 4000000 in
theorem reclaim_any {w : World} {v vs : Value} {l s : List Al} (hv : AlI w v l) (hs : AlI w vs s) (hl : l.length ≤ 1000) (hsl : s.length < 1000000000) (k : Int) :
    Calls Try.prog 9 #[v, Z k, vs] w fun e w' => ∃ v', e = .returned (.tuple #[v', Z (rcE l k s)]) ∧ NW w [alF v' (rcL l k s)] w' := by
  have hL : Lt l := fun x hx => ali_lt hv hx
  have hrf := fun (w' : World) (hw : GS w w w.heap.size noK (· < w.heap.size) [alF v l, alF vs s] [] w') => refused_any (hw.al (i := 0) rfl) (hw.al (i := 1) rfl) (by omega) hsl k
  obtain ⟨ad, cap, hv0⟩ := hv.slice
  obtain ⟨ads, caps, hs0⟩ := hs.slice
  subst hv0 hs0
  refine inQ (J := GS w w w.heap.size noK (· < w.heap.size) [alF (.slice ad l.length cap) l, alF (.slice ads s.length caps) s] []) (F := GF noK (· < w.heap.size) []) Try.func9 (GS.start w fun f hf => by
    rcases List.mem_cons.1 hf with rfl | hf
    · exact hv
    · rw [List.mem_singleton.1 hf]; exact hs) fun a I => ?_
  by_cases hE : rfE l k s = 0
  · rw [hE] at hrf
    obtain ⟨i, x, y0, y1, rfl, hx, hk1, rfl, hn0, hn1, hsum, hsm⟩ := rf_zero hE
    have hil := (List.getElem?_eq_some_iff.1 hx).1
    have e1 : rcE l i [y0, y1] = sdE l (pl l x.2.2.2.1) (pl l x.2.2.2.2) y0.2.1 y1.2.1 := by
      unfold rcE
      rw [if_neg (by rw [hE]; decide), Int.toNat_natCast]
      unfold lfD rgD
      rw [getD_is hx]
      rfl
    have e2 : rcL l i [y0, y1] = if sdE l (pl l x.2.2.2.1) (pl l x.2.2.2.2) y0.2.1 y1.2.1 ≠ 0 then l else (sdL l (pl l x.2.2.2.1) (pl l x.2.2.2.2) y0.2.1 y1.2.1).eraseIdx i := by
      unfold rcL
      rw [e1, Int.toNat_natCast]
      unfold lfD rgD
      rw [getD_is hx]
      rfl
    rw [e1, e2]
    have hld := fun (f : List Al → Prop) => True
    obtain ⟨ad', cap', he, hm⟩ := id hv
    cases he
    obtain ⟨ga, off, cs, rfl, hlt, hca, rfl, _⟩ := hm i x hx
    have hA : ∀ (w' : World), GS w w w.heap.size noK (· < w.heap.size) [alF (.slice (some ⟨ga, off, none⟩) l.length cap) l, alF (.slice ads [y0, y1].length caps) [y0, y1]] [] w' → True := fun _ _ => trivial
    refine goT (T := GS w w w.heap.size noK (· < w.heap.size) [alF (.slice (some ⟨ga, off, none⟩) l.length cap) l, alF (.slice ads [y0, y1].length caps) [y0, y1]] []) [cA Try.func17 hrf, bO .neq 28 (run_neE (x := 0) (y := 0) (b := false) rfl)] (GS.rsr _ _ _ _ _ _ _) (fun _ h => h) I fun β1 a1 w1 I hb1 => ?_
    refine copyO (i := 0) rfl hl I fun gc ado capo a2 w2 I => ?_
    obtain ⟨go, hgo⟩ := I.hJ.blk (by omega)
    subst hgo
    refine goQ [] (GS.rsr _ _ _ _ _ _ _) I fun β3 a3 w3 I hb3 => ?_
    have hcl : ∀ w', GS w w w.heap.size noK (· < w.heap.size) [alF (.slice (some ⟨ga, off, none⟩) l.length cap) l, alF (.slice ads [y0, y1].length caps) [y0, y1]] [alO (.slice (some ⟨go, 0, none⟩) l.length capo) l] w' → CellsAt w' ga (off + i * 8) (al8 x) := fun w' h => hca.keep (h.bw.block ga hlt)
    refine dwL (T := GS w w w.heap.size noK (· < w.heap.size) [alF (.slice (some ⟨ga, off, none⟩) l.length cap) l, alF (.slice ads [y0, y1].length caps) [y0, y1]] [alO (.slice (some ⟨go, 0, none⟩) l.length capo) l]) 11 46 10 #[.string ⟨#[]⟩, .string ⟨#[]⟩] [ixA ga off l.length cap i hil, ldA 9 (fun w' h => loadL (hcl w' h)), ixA ga off l.length cap i hil, ldA 9 (fun w' h => loadR (hcl w' h)), dO 46 [0, 1] (bd46 x.2.2.2.1 x.2.2.2.2)] (GS.rsr _ _ _ _ _ _ _) (fun _ h => h) I fun bb vs β4 a4 w4 hb4 I => ?_
    refine goQ [] (GS.rsr _ _ _ _ _ _ _) I fun β5 a5 w5 I hb5 => ?_
    obtain ⟨g0, h0⟩ : ∃ t, β5 0 = t := ⟨_, rfl⟩
    obtain ⟨g1, h1⟩ : ∃ t, β5 1 = t := ⟨_, rfl⟩
    obtain ⟨g2, h2⟩ : ∃ t, β5 2 = t := ⟨_, rfl⟩
    obtain ⟨g3, h3⟩ : ∃ t, β5 3 = t := ⟨_, rfl⟩
    obtain ⟨g4, h4⟩ : ∃ t, β5 4 = t := ⟨_, rfl⟩
    refine mkfX (fn := .func 19) (ss := [Sum.inr (0, 0), Sum.inr (3, 0), Sum.inr (4, 0)]) I ?_
    have I6 := I.same (.func (.func 19) #[] (([Sum.inr (0, 0), Sum.inr (3, 0), Sum.inr (4, 0)] : List SV).map (up β5)).toArray)
    have ea : (([Sum.inr (0, 0), Sum.inr (3, 0), Sum.inr (4, 0)] : List SV).map (up β5)).toArray = #[ptr0 g0, ptr0 g3, ptr0 g4] := by rw [← h0, ← h3, ← h4]; rfl
    rw [ea] at I6 ⊢
    clear I
    refine goQ [] (GS.rsr _ _ _ _ _ _ _) I6 fun β7 a7 w7 I hb7 => ?_
    have h0 := agr hb7 0 h0
    have h1 := agr hb7 1 h1
    have h2 := agr hb7 2 h2
    have h3 := agr hb7 3 h3
    have h4 := agr hb7 4 h4
    refine mkfX (fn := .func 22) (ss := [Sum.inr (2, 0), Sum.inr (4, 0), Sum.inr (1, 0)]) I ?_
    have I8 := I.same (.func (.func 22) #[] (([Sum.inr (2, 0), Sum.inr (4, 0), Sum.inr (1, 0)] : List SV).map (up β7)).toArray)
    have eb : (([Sum.inr (2, 0), Sum.inr (4, 0), Sum.inr (1, 0)] : List SV).map (up β7)).toArray = #[ptr0 g2, ptr0 g4, ptr0 g1] := by rw [← h1, ← h2, ← h4]; rfl
    rw [eb] at I8 ⊢
    clear I I6
    refine goQ [] (GS.rsr _ _ _ _ _ _ _) I8 fun β9 a9 w9 I hb9 => ?_
    have h0 := agr hb9 0 h0
    have h1 := agr hb9 1 h1
    have h2 := agr hb9 2 h2
    have h3 := agr hb9 3 h3
    have h4 := agr hb9 4 h4
    refine bslQ (ss := [(0, Sum.inl (.func (.func 19) #[] #[ptr0 g0, ptr0 g3, ptr0 g4])), (1, Sum.inl (.func (.func 22) #[] #[ptr0 g2, ptr0 g4, ptr0 g1]))]) I (bs62_2 _ _ _ _ _ _ w9) ?_
    obtain ⟨K9, I⟩ := I.gs (nw_fn #[.func (.func 19) #[] #[ptr0 g0, ptr0 g3, ptr0 g4], .func (.func 22) #[] #[ptr0 g2, ptr0 g4, ptr0 g1]] w9) (.slice (some ⟨w9.heap.size, 0, none⟩) 2 2)
    generalize w9.heap.size = gf at *
    have ef : (#[.func (.func 19) #[] #[ptr0 g0, ptr0 g3, ptr0 g4], .func (.func 22) #[] #[ptr0 g2, ptr0 g4, ptr0 g1]] : Array Value) = fRc β9 := by unfold fRc; rw [h0, h1, h2, h3, h4]
    refine mcall (f := 24) (ss := [Sum.inl (.slice (some ⟨gf, 0, none⟩) 2 2)]) Try.func24 I ((rc_both (i := 1) (j := 2) (jf := 0) (y0 := y0) (y1 := y1) (dL := x.2.2.2.1) (dR := x.2.2.2.2) (l := l) rfl (I.cr 5 (ag0 5 β9) (rcR (.slice (some ⟨ga, off, none⟩) l.length cap) (.slice ads [y0, y1].length caps) (.slice (some ⟨go, 0, none⟩) l.length capo) x.2.2.2.1 x.2.2.2.2 0 0)) (by rw [← ef]; rfl) rfl rfl hL (by omega)).mono fun e w10 he => ?_)
    obtain ⟨rfl, hA, hB⟩ := he
    by_cases hS : sdE l (pl l x.2.2.2.1) (pl l x.2.2.2.2) y0.2.1 y1.2.1 = 0
    · have hsd := hS
      unfold sdE at hsd
      by_cases q1 : l.length ≤ pl l x.2.2.2.1 ∨ l.length ≤ pl l x.2.2.2.2
      · rw [if_pos q1] at hsd; cases hsd
      rw [if_neg q1] at hsd
      by_cases q2 : W ≤ am l (pl l x.2.2.2.1) + y0.2.1
      · rw [if_pos q2] at hsd; cases hsd
      rw [if_neg q2] at hsd
      by_cases q3 : W ≤ am (stA l (pl l x.2.2.2.1) (am l (pl l x.2.2.2.1) + y0.2.1)) (pl l x.2.2.2.2) + y1.2.1
      · rw [if_pos q3] at hsd; cases hsd
      have hL2 : Lt (sdL l (pl l x.2.2.2.1) (pl l x.2.2.2.2) y0.2.1 y1.2.1) := stA_lt (stA_lt hL _ (by omega)) _ (by omega)
      have hlen : (sdL l (pl l x.2.2.2.1) (pl l x.2.2.2.2) y0.2.1 y1.2.1).length = l.length := by unfold sdL; rw [stA_len, stA_len]
      have hA2 := hA hS
      clear hA hB
      rw [if_neg (fun h => h hS), hS]
      clear hS
      generalize sdL l (pl l x.2.2.2.1) (pl l x.2.2.2.2) y0.2.1 y1.2.1 = l2 at *
      have I9 := I.ofCR hA2 (Z 0)
      refine atRows (rcRs (.slice (some ⟨ga, off, none⟩) l.length cap) (.slice ads [y0, y1].length caps) (.slice (some ⟨go, 0, none⟩) l.length capo) l x.2.2.2.1 x.2.2.2.2 2) ?_
      clear I hA2
      refine goQ [bO .neq 28 (run_neE (x := 0) (y := 0) (b := false) rfl), p1 i (by omega)] (GS.rsr _ _ _ _ _ _ _) I9 fun β11 a11 w11 I hb11 => ?_
      have hO := I.hJ.oRow
      rw [← hlen] at hO
      have hD := delete_any hO (k := i) (by rw [hlen]; exact hil) (by rw [hlen]; omega)
      rw [hlen] at hD
      refine mcall (f := 25) (ss := [Sum.inl (.slice (some ⟨go, 0, none⟩) l.length capo), Sum.inl (Z i), Sum.inl (Z (i + 1 : Nat))]) Try.func25 I (hD.mono fun e w12 he => ?_)
      obtain ⟨rfl, hO2, hg2⟩ := he
      have hle2 : (l2.eraseIdx i).length = l.length - 1 := by rw [List.length_eraseIdx, if_pos (by rw [hlen]; exact hil), hlen]
      have I12 := I.upd (g := go) (v' := .slice (some ⟨go, 0, none⟩) (l.length - 1) capo) (l' := l2.eraseIdx i) rfl rfl (by rw [hle2]; exact hO2) hg2 (.slice (some ⟨go, 0, none⟩) (l.length - 1) capo)
      refine goQ [] (GS.rsr _ _ _ _ _ _ _) I12 fun β13 a13 w13 I hb13 => ?_
      exact outQ (v := .tuple #[.slice (some ⟨go, 0, none⟩) (l.length - 1) capo, Z 0]) I ⟨_, rfl, I.hJ.newA fun y hy => hL2 y (List.mem_of_mem_eraseIdx hy)⟩
    · have hB2 := hB hS
      clear hA hB
      rw [if_pos hS]
      generalize sdE l (pl l x.2.2.2.1) (pl l x.2.2.2.2) y0.2.1 y1.2.1 = E at *
      have I9 := I.ofCR hB2 (Z E)
      refine atRows [(0, #[.slice (some ⟨ga, off, none⟩) l.length cap])] ?_
      clear I hB2
      refine goQ [bO .neq 28 (run_neE (x := E) (y := 0) (b := true) (decide_eq_true hS))] (GS.rsr _ _ _ _ _ _ _) I9 fun β11 a11 w11 I hb11 => ?_
      refine copyO (i := 1) rfl hl I fun gc ad2 cap2 a12 w12 I => ?_
      refine goQ [] (GS.rsr _ _ _ _ _ _ _) I fun β13 a13 w13 I hb13 => ?_
      exact outQ (v := .tuple #[.slice ad2 l.length cap2, Z E]) I ⟨_, rfl, I.hJ.newA hL⟩
  · have e1 : rcE l k s = rfE l k s := by unfold rcE; rw [if_pos hE]
    have e2 : rcL l k s = l := by unfold rcL; rw [e1, if_pos hE]
    rw [e1, e2]
    generalize rfE l k s = E at *
    refine goT (T := GS w w w.heap.size noK (· < w.heap.size) [alF (.slice ad l.length cap) l, alF (.slice ads s.length caps) s] []) [cA Try.func17 hrf, bO .neq 28 (run_neE (x := E) (y := 0) (b := true) (decide_eq_true hE))] (GS.rsr _ _ _ _ _ _ _) (fun _ h => h) I fun β1 a1 w1 I hb1 => ?_
    refine copyO (i := 0) rfl hl I fun gc ad2 cap2 a12 w12 I => ?_
    refine goQ [] (GS.rsr _ _ _ _ _ _ _) I fun β13 a13 w13 I hb13 => ?_
    exact outQ (v := .tuple #[.slice ad2 l.length cap2, Z E]) I ⟨_, rfl, I.hJ.newA hL⟩
end Go.Proofs.Ytdiblfgnnliifaa
