/- What a function hands to its closures: rows that both know, lists in blocks, a row of its own; the closures. -/
import Derived.Test.YtdiblfgnnliifaaTd
namespace Go.Proofs.Ytdiblfgnnliifaa
open Go.RowKit Go.Sort
set_option linter.unusedVariables false
set_option maxRecDepth 100000
structure CR (β : Nat → Nat) (w0 : World) (b : Nat) (K : Nat → Prop) (Fs : List Lf) (R : Rows) (O : List Ow) (w : World) : Prop where
  g : GS w0 w0 b noK K Fs O w
  row : ∀ p ∈ R, HasRow w (β p.1) p.2
  dis : ∀ p ∈ R, ¬ GF noK K O (β p.1)
  inj : ∀ p ∈ R, ∀ q ∈ R, p.1 ≠ q.1 → β p.1 ≠ β q.1
def CF (β : Nat → Nat) (K : Nat → Prop) (R : Rows) (O : List Ow) (k : Nat) : Prop := GF noK K O k ∨ ∃ p ∈ R, β p.1 = k
theorem CR.rs (β : Nat → Nat) (w0 : World) (b : Nat) (K : Nat → Prop) (Fs : List Lf) (R : Rows) (O : List Ow) : Rsrc (CR β w0 b K Fs R O) (CF β K R O) := by
  refine ⟨fun w w' h g => ⟨(GS.rsr w0 w0 b noK K Fs O).loc w w' h.g (g.mono fun k hk => .inl hk), fun p hp => ?_, h.dis, h.inj⟩, fun w k h hk => ?_⟩
  · obtain ⟨t, ht⟩ := h.row p hp
    exact ⟨t, (g.block _ (Array.getElem?_eq_some_iff.1 ht).1 (.inr ⟨p, hp, rfl⟩)).trans ht⟩
  · rcases hk with hk | ⟨p, hp, rfl⟩
    · exact (GS.rsr w0 w0 b noK K Fs O).lt w k h.g hk
    · exact (h.row p hp).lt
theorem Rsrc.and {J : World → Prop} {F : Nat → Prop} (p : Prop) (R : Rsrc J F) : Rsrc (fun w => p ∧ J w) F := ⟨fun w w' h g => ⟨h.1, R.loc w w' h.2 g⟩, fun w k h hk => R.lt w k h.2 hk⟩
section
variable {w0 : World} {b : Nat} {K : Nat → Prop} {Fs : List Lf} {O : List Ow} {ds : List Deferred} {β β0 : Nat → Nat} {c : Cf} {a : Act} {w w' : World} {Q : Exit → Act → World → Prop} {R R' : Rows}
theorem SI.cr (I : SI (GS w0 w0 b noK K Fs O) (GF noK K O) ds β c a w) (n : Nat) (hag : Agree n β0 β) (R : Rows) (h : R.map (fun p => rowOf c.rows p.1) = R.map (fun p => some p.2) := by kernel_rfl) (hn : (R.all fun p => decide (p.1 < n)) = true := by kernel_rfl) : CR β0 w0 b K Fs R O w := by
  have h1 : ∀ p ∈ R, (p.1, p.2) ∈ c.rows ∧ β p.1 = β0 p.1 := fun p hp => ⟨rowOf_mem (List.map_inj_left.1 h p hp), hag _ (of_decide_eq_true (List.all_eq_true.1 hn p hp))⟩
  refine ⟨I.hJ, fun p hp => ?_, fun p hp => ?_, fun p hp q hq hne => ?_⟩
  · rw [← (h1 p hp).2]; exact I.row _ (h1 p hp).1
  · rw [← (h1 p hp).2]; exact I.dis _ (h1 p hp).1
  · rw [← (h1 p hp).2, ← (h1 q hq).2]; exact I.inj _ (h1 p hp).1 _ (h1 q hq).1 hne
/-- Behind a call that leaves rows, lists and a row of one's own. -/
theorem SI.ofCR {J : World → Prop} {F : Nat → Prop} (I : SI J F ds β c a w) (H : CR β w0 b K Fs R' O w') (v : Value) (hlt : (R'.all fun p => decide (p.1 < c.nx)) = true := by kernel_rfl) : SI (GS w0 w0 b noK K Fs O) (GF noK K O) ds β { nxtQ c v with rows := R' } (a.put (dstQ c) v) w' := by
  refine ⟨putQ_fr I.fr (dstQ c) (some (Sum.inl v)), ?_, H.g, H.row, H.dis, fun p hp => of_decide_eq_true (List.all_eq_true.1 hlt p hp), H.inj, idsB_put I.ids (dstQ c) (fun i o h => by cases h)⟩
  cases dstQ c <;> exact I.df
theorem atRows {P : Program} (rows' : Rows) (h : At P Q { c with rows := rows' } a w) : At P Q c a w := ⟨h.out⟩
theorem GS.drop (h : GS w0 w0 b noK K Fs O w) : GS w0 w0 b noK K Fs [] w := ⟨h.bw, h.rs, h.bs, h.kk, h.nc, h.kb, h.lo, h.sl, fun o ho => (by cases ho), fun o ho => (by cases ho), List.Pairwise.nil⟩
theorem CR.less (H : CR β w0 b K Fs R O w) (R' : Rows) (h : ∀ p ∈ R', p ∈ R) : CR β w0 b K Fs R' [] w := ⟨H.g.drop, fun p hp => H.row p (h p hp), fun p hp hk => H.dis p (h p hp) (by
  rcases hk with hk | ⟨o, ho, _⟩ | hk
  · exact .inl hk
  · cases ho
  · exact .inr (.inr hk)), fun p hp q hq => H.inj p (h p hp) q (h q hq)⟩
/-- Into a closure. -/
theorem inCR {f : Nat} {fn : Func} (ss : List SV) {nx : Nat} {Rt : Ending → World → Prop} (hf : Try.prog.funcs[f]? = some fn) (H : CR β w0 b K Fs R O w)
    (k : ∀ a, SI (GS w0 w0 b noK K Fs O) (GF noK K O) [] β (cfR fn ss R nx) a w → At Try.prog (bodyPost Try.prog fn Rt) (cfR fn ss R nx) a w) (hl : (R.all fun p => decide (p.1 < nx)) = true := by kernel_rfl) (hb : fn.body.isSome = true := by kernel_rfl) (hids : idsB (ss.map some) nx = true := by kernel_rfl) : Calls Try.prog f (ss.map (up β)).toArray w Rt :=
  inR ss hf H.g H.row H.dis H.inj k (fun p hp => of_decide_eq_true (List.all_eq_true.1 hl p hp)) hb hids
theorem GS.al (h : GS w0 w0 b noK K Fs O w) {i : Nat} {v : Value} {l : List Al} (hi : Fs[i]? = some (alF v l)) : AlI w v l := h.at i hi
theorem ag0 (n : Nat) (β : Nat → Nat) : Agree n β β := fun _ _ => rfl
end

theorem agL {n m : Nat} {β β' : Nat → Nat} (h : Agree m β β') (hn : decide (n ≤ m) = true := by kernel_rfl) : Agree n β β' := fun i hi => h i (Nat.lt_of_lt_of_le hi (of_decide_eq_true hn))
theorem agT {n : Nat} {β β' β'' : Nat → Nat} (h : Agree n β β') (k : Agree n β' β'') : Agree n β β'' := fun i hi => (k i hi).trans (h i hi)
/-- The rows of what ends what is bound. -/
abbrev rcR (vl vi vo : Value) (d0 d1 : ByteArray) (p0 p1 : Int) : Rows := [(0, #[vl]), (1, #[vi]), (2, #[vo]), (3, #[.string d0, .string d1]), (4, #[Z p0, Z p1])]
theorem find0 {β : Nat → Nat} {w0 : World} {b : Nat} {K : Nat → Prop} {Fs : List Lf} {vl vi vo : Value} {d0 d1 : ByteArray} {p0 p1 : Int} {O : List Ow} {w : World} {l : List Al} {i : Nat} (H : CR β w0 b K Fs (rcR vl vi vo d0 d1 p0 p1) O w) (hi : Fs[i]? = some (alF vl l)) (hl : l.length < 1000000000) :
    Calls Try.prog 19 (([Sum.inl (Z 0), Sum.inr (0, 0), Sum.inr (3, 0), Sum.inr (4, 0)] : List SV).map (up β)).toArray w fun e w' => e = .returned (Z (if decide (ixZ (plP d0) l < 0) = true then 9 else 0)) ∧ CR β w0 b K Fs (rcR vl vi vo d0 d1 (ixZ (plP d0) l) p1) O w' := by
  refine inCR (nx := 5) [Sum.inl (Z 0), Sum.inr (0, 0), Sum.inr (3, 0), Sum.inr (4, 0)] Try.func19 H fun a I => ?_
  have hT := fun (w' : World) (h : GS w0 w0 b noK K Fs O w') => plainOf_any (h.al hi) hl d0
  generalize ixZ (plP d0) l = z at *
  obtain ⟨q, hq⟩ : ∃ q, decide (z < 0) = q := ⟨_, rfl⟩
  rw [hq]
  refine goQ [] (GS.rsr _ _ _ _ _ _ _) I fun β1 a1 w1 I hb1 => ?_
  refine dwT (T := GS w0 w0 b noK K Fs O) 7 [cA Try.func20 hT] (GS.rsr _ _ _ _ _ _ _) (fun _ h => h) PanOk.post I fun a2 w2 I => ?_
  refine goQ [bO .lss 3 (run_lssZ (x := z) (y := 0) (b := q) hq), kC Try.func21 (errIf_any q 9)] (GS.rsr _ _ _ _ _ _ _) I fun β3 a3 w3 I hb3 => ?_
  exact outQ (v := Z (if q = true then 9 else 0)) I ⟨rfl, I.cr 5 (agT (agL hb1) (agL hb3)) _⟩
theorem find1 {β : Nat → Nat} {w0 : World} {b : Nat} {K : Nat → Prop} {Fs : List Lf} {vl vi vo : Value} {d0 d1 : ByteArray} {p0 p1 : Int} {O : List Ow} {w : World} {l : List Al} {i : Nat} (H : CR β w0 b K Fs (rcR vl vi vo d0 d1 p0 p1) O w) (hi : Fs[i]? = some (alF vl l)) (hl : l.length < 1000000000) :
    Calls Try.prog 19 (([Sum.inl (Z 1), Sum.inr (0, 0), Sum.inr (3, 0), Sum.inr (4, 0)] : List SV).map (up β)).toArray w fun e w' => e = .returned (Z (if decide (ixZ (plP d1) l < 0) = true then 9 else 0)) ∧ CR β w0 b K Fs (rcR vl vi vo d0 d1 p0 (ixZ (plP d1) l)) O w' := by
  refine inCR (nx := 5) [Sum.inl (Z 1), Sum.inr (0, 0), Sum.inr (3, 0), Sum.inr (4, 0)] Try.func19 H fun a I => ?_
  have hT := fun (w' : World) (h : GS w0 w0 b noK K Fs O w') => plainOf_any (h.al hi) hl d1
  generalize ixZ (plP d1) l = z at *
  obtain ⟨q, hq⟩ : ∃ q, decide (z < 0) = q := ⟨_, rfl⟩
  rw [hq]
  refine goQ [] (GS.rsr _ _ _ _ _ _ _) I fun β1 a1 w1 I hb1 => ?_
  refine dwT (T := GS w0 w0 b noK K Fs O) 7 [cA Try.func20 hT] (GS.rsr _ _ _ _ _ _ _) (fun _ h => h) PanOk.post I fun a2 w2 I => ?_
  refine goQ [bO .lss 3 (run_lssZ (x := z) (y := 0) (b := q) hq), kC Try.func21 (errIf_any q 9)] (GS.rsr _ _ _ _ _ _ _) I fun β3 a3 w3 I hb3 => ?_
  exact outQ (v := Z (if q = true then 9 else 0)) I ⟨rfl, I.cr 5 (agT (agL hb1) (agL hb3)) _⟩
theorem give0 {β : Nat → Nat} {w0 : World} {b : Nat} {K : Nat → Prop} {Fs : List Lf} {vl vi : Value} {d0 d1 : ByteArray} {p0 p1 : Int} {w : World} {l : List Al} {y0 y1 : Al} {i j g cap : Nat} (H : CR β w0 b K Fs (rcR vl vi (.slice (some ⟨g, 0, none⟩) l.length cap) d0 d1 p0 p1) [alO (.slice (some ⟨g, 0, none⟩) l.length cap) l] w) (hi : Fs[i]? = some (alF vi [y0, y1])) (hp : p0 = (j : Nat)) (hj : j < l.length) (hL : Lt l) :
    Calls Try.prog 22 (([Sum.inl (Z 0), Sum.inr (2, 0), Sum.inr (4, 0), Sum.inr (1, 0)] : List SV).map (up β)).toArray w fun e w' => e = .returned (Z (if decide (W ≤ am l j + y0.2.1) = true then 7 else 0)) ∧ CR β w0 b K Fs (rcR vl vi (.slice (some ⟨g, 0, none⟩) l.length cap) d0 d1 p0 p1) [alO (.slice (some ⟨g, 0, none⟩) l.length cap) (stA l j ((am l j + y0.2.1) % W))] w' := by
  subst hp
  have h0 := H.g.al hi
  obtain ⟨adi, capi, rfl, hmi⟩ := h0
  obtain ⟨gi, offi, csi, rfl, hlti, _, rfl, hyW⟩ := hmi 0 y0 rfl
  have hld : ∀ w', GS w0 w0 b noK K Fs [alO (.slice (some ⟨g, 0, none⟩) l.length cap) l] w' → (loadVar 25 ⟨gi, offi + 0 * 8 + 1, none⟩).run Try.prog w' = .ok (U y0.2.1) w' := fun w' h => by
    obtain ⟨ad', cap', he, hm'⟩ := h.al hi
    cases he
    obtain ⟨g', off', cs', he', hlt', hc', rfl, _⟩ := hm' 0 y0 rfl
    cases he'
    exact loadU hc'
  obtain ⟨x, hx⟩ : ∃ t, l[j]? = some t := ⟨_, List.getElem?_eq_getElem hj⟩
  have hlo : ∀ w', GS w0 w0 b noK K Fs [alO (.slice (some ⟨g, 0, none⟩) l.length cap) l] w' → (loadVar 25 ⟨g, 0 + j * 8 + 1, none⟩).run Try.prog w' = .ok (U (am l j)) w' := fun w' h => by rw [am_is hx]; exact loadU (h.oAt hL hx)
  have hmW := am_lt hL j
  generalize y0.2.1 = m at *
  generalize am l j = n at *
  obtain ⟨q, hq⟩ : ∃ q, decide (W ≤ n + m) = q := ⟨_, rfl⟩
  have hadd := addT add_any hmW hyW hq
  rw [hq]
  generalize (n + m) % W = s2 at *
  refine inCR (nx := 5) [Sum.inl (Z 0), Sum.inr (2, 0), Sum.inr (4, 0), Sum.inr (1, 0)] Try.func22 H fun a I => ?_
  refine goQ [] (GS.rsr _ _ _ _ _ _ _) I fun β1 a1 w1 I hb1 => ?_
  refine dwA (T := GS w0 w0 b noK K Fs [alO (.slice (some ⟨g, 0, none⟩) l.length cap) l]) 16 17 6 22 s2 [ixA g 0 l.length cap j hj, ldA 25 hlo, ixA gi offi 2 capi 0 (by decide), ldA 25 hld, kC Try.func23 hadd] (GS.rsr _ _ _ _ _ _ _) (fun _ h => h) I fun bb vs β2 a2 w2 hb2 I => ?_
  refine goQ [] (GS.rsr _ _ _ _ _ _ _) I fun β3 a3 w3 I hb3 => ?_
  refine dwT (T := fun _ => True) 7 [ixA g 0 l.length cap j hj] (GS.rsr _ _ _ _ _ _ _) (fun _ _ => trivial) PanOk.post I fun a4 w4 I => ?_
  refine stO (i := j) (n := s2) hj I fun w5 I => ?_
  refine goQ [kC Try.func21 (errIf_any q 7)] (GS.rsr _ _ _ _ _ _ _) I fun β6 a6 w6 I hb6 => ?_
  exact outQ (v := Z (if q = true then 7 else 0)) I ⟨rfl, I.cr 5 (agT (agL hb1) (agT (agL hb2) (agT (agL hb3) (agL hb6)))) _⟩
theorem give1 {β : Nat → Nat} {w0 : World} {b : Nat} {K : Nat → Prop} {Fs : List Lf} {vl vi : Value} {d0 d1 : ByteArray} {p0 p1 : Int} {w : World} {l : List Al} {y0 y1 : Al} {i j g cap : Nat} (H : CR β w0 b K Fs (rcR vl vi (.slice (some ⟨g, 0, none⟩) l.length cap) d0 d1 p0 p1) [alO (.slice (some ⟨g, 0, none⟩) l.length cap) l] w) (hi : Fs[i]? = some (alF vi [y0, y1])) (hp : p1 = (j : Nat)) (hj : j < l.length) (hL : Lt l) :
    Calls Try.prog 22 (([Sum.inl (Z 1), Sum.inr (2, 0), Sum.inr (4, 0), Sum.inr (1, 0)] : List SV).map (up β)).toArray w fun e w' => e = .returned (Z (if decide (W ≤ am l j + y1.2.1) = true then 7 else 0)) ∧ CR β w0 b K Fs (rcR vl vi (.slice (some ⟨g, 0, none⟩) l.length cap) d0 d1 p0 p1) [alO (.slice (some ⟨g, 0, none⟩) l.length cap) (stA l j ((am l j + y1.2.1) % W))] w' := by
  subst hp
  have h0 := H.g.al hi
  obtain ⟨adi, capi, rfl, hmi⟩ := h0
  obtain ⟨gi, offi, csi, rfl, hlti, _, rfl, hyW⟩ := hmi 1 y1 rfl
  have hld : ∀ w', GS w0 w0 b noK K Fs [alO (.slice (some ⟨g, 0, none⟩) l.length cap) l] w' → (loadVar 25 ⟨gi, offi + 1 * 8 + 1, none⟩).run Try.prog w' = .ok (U y1.2.1) w' := fun w' h => by
    obtain ⟨ad', cap', he, hm'⟩ := h.al hi
    cases he
    obtain ⟨g', off', cs', he', hlt', hc', rfl, _⟩ := hm' 1 y1 rfl
    cases he'
    exact loadU hc'
  obtain ⟨x, hx⟩ : ∃ t, l[j]? = some t := ⟨_, List.getElem?_eq_getElem hj⟩
  have hlo : ∀ w', GS w0 w0 b noK K Fs [alO (.slice (some ⟨g, 0, none⟩) l.length cap) l] w' → (loadVar 25 ⟨g, 0 + j * 8 + 1, none⟩).run Try.prog w' = .ok (U (am l j)) w' := fun w' h => by rw [am_is hx]; exact loadU (h.oAt hL hx)
  have hmW := am_lt hL j
  generalize y1.2.1 = m at *
  generalize am l j = n at *
  obtain ⟨q, hq⟩ : ∃ q, decide (W ≤ n + m) = q := ⟨_, rfl⟩
  have hadd := addT add_any hmW hyW hq
  rw [hq]
  generalize (n + m) % W = s2 at *
  refine inCR (nx := 5) [Sum.inl (Z 1), Sum.inr (2, 0), Sum.inr (4, 0), Sum.inr (1, 0)] Try.func22 H fun a I => ?_
  refine goQ [] (GS.rsr _ _ _ _ _ _ _) I fun β1 a1 w1 I hb1 => ?_
  refine dwA (T := GS w0 w0 b noK K Fs [alO (.slice (some ⟨g, 0, none⟩) l.length cap) l]) 16 17 6 22 s2 [ixA g 0 l.length cap j hj, ldA 25 hlo, ixA gi offi 2 capi 1 (by decide), ldA 25 hld, kC Try.func23 hadd] (GS.rsr _ _ _ _ _ _ _) (fun _ h => h) I fun bb vs β2 a2 w2 hb2 I => ?_
  refine goQ [] (GS.rsr _ _ _ _ _ _ _) I fun β3 a3 w3 I hb3 => ?_
  refine dwT (T := fun _ => True) 7 [ixA g 0 l.length cap j hj] (GS.rsr _ _ _ _ _ _ _) (fun _ _ => trivial) PanOk.post I fun a4 w4 I => ?_
  refine stO (i := j) (n := s2) hj I fun w5 I => ?_
  refine goQ [kC Try.func21 (errIf_any q 7)] (GS.rsr _ _ _ _ _ _ _) I fun β6 a6 w6 I hb6 => ?_
  exact outQ (v := Z (if q = true then 7 else 0)) I ⟨rfl, I.cr 5 (agT (agL hb1) (agT (agL hb2) (agT (agL hb3) (agL hb6)))) _⟩
end Go.Proofs.Ytdiblfgnnliifaa
