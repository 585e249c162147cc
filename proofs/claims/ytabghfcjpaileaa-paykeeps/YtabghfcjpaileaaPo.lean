/- PayKeeps: for all money, allocations and places. -/
import Derived.Test.YtabghfcjpaileaaPm
namespace Go.Proofs.Ytabghfcjpaileaa
open Go.RowKit Go.Sort
set_option linter.unusedVariables false
set_option maxRecDepth 100000
theorem kAddOk {f : Nat} {n m s : Nat} (hA : ∀ n m : Nat, n < W → m < W → ∀ w, Calls Try.prog f #[U n, U m] w fun e w' => e = .returned (.tuple #[U (addW n m), .bool (ovW n m)]) ∧ Below w.heap.size w w') (h1 : n < W) (h2 : m < W) (h : n + m = s) (hs : s < W) (w : World) : Calls Try.prog f #[U n, U m] w fun e w' => e = .returned (.tuple #[U s, .bool false]) ∧ Below w.heap.size w w' := by
  have := hA n m h1 h2 w
  rwa [show addW n m = s from by rw [← h]; exact Nat.mod_eq_of_lt (by omega), show ovW n m = false from decide_eq_false (by omega)] at this
theorem pd_short {h : Nat} {l : List Al} {p : List Int} {i : Nat} {x : Al} (hs : h < smA (l.take i)) : pdN h l p i x = 0 := by
  have h1 := pdN_le h l p i x
  have h2 := (shN_le h l i x).1
  have h3 : lfN h l i = h - smA (l.take i) := rfl
  omega
theorem cmp_gt {n m : Nat} : decide ((0 : Int) < cmpN n m) = decide (m < n) := by
  unfold cmpN
  split
  · next h => rw [decide_eq_false (by omega : ¬ m < n)]; rfl
  · next h =>
    split
    · next h2 => rw [decide_eq_true h2]; rfl
    · next h2 => rw [decide_eq_false h2]; rfl
abbrev kpK : List Nat := [1, 3, 6, 7, 8, 9, 11, 12, 13, 67, 68]
abbrev kpV (v v1 v2 : Value) (b : Bool) (n i : Nat) : Vs := frm 145 [(1, Sum.inl v), (3, Sum.inr (0, 0)), (6, Sum.inl (.bool false)), (7, Sum.inl v1), (8, Sum.inl v2), (9, Sum.inr (1, 0)), (11, Sum.inr (2, 0)), (12, Sum.inr (3, 0)), (13, Sum.inl (.bool b)), (67, Sum.inl (Z n)), (68, Sum.inl (Z i))]
set_option maxHeartbeats 8000000 in
theorem keeps_walk {w : World} {v vp : Value} {l : List Al} {p : List Int} {h : Nat} (hv : AlI w v l) (hp : InI w vp p) (hh : h < W) : Calls Try.prog 4 #[U h, v, vp] w fun e w' => e = .returned (.bool true) ∧ Below w.heap.size w w' := by
  have haw := awake_any
  obtain ⟨ad, cap, rfl, hml⟩ := hv
  have hv : AlI w (.slice ad l.length cap) l := ⟨ad, cap, rfl, hml⟩
  obtain ⟨adp, capp, hp0⟩ := hp.slice
  subst hp0
  have hfw := fun (w' : World) (hw : GS w w w.heap.size noK (· < w.heap.size) ([alF (.slice ad l.length cap) l, inF (.slice adp p.length capp) p]) [] w') => few_any (hw.at 0 (f := alF (.slice ad l.length cap) l) rfl) (hw.at 1 (f := inF (.slice adp p.length capp) p) rfl)
  refine inQ (J := GS w w w.heap.size noK (· < w.heap.size) ([alF (.slice ad l.length cap) l, inF (.slice adp p.length capp) p]) []) (F := GF noK (· < w.heap.size) []) Try.func4 (GS.start w fun f hf => by
    rcases List.mem_cons.1 hf with rfl | hf
    · exact hv
    · rw [List.mem_singleton.1 hf]; exact hp) fun a I => ?_
  have hR := GS.rsr w w w.heap.size noK (· < w.heap.size) ([alF (.slice ad l.length cap) l, inF (.slice adp p.length capp) p]) []
  by_cases q1 : l.length ≤ 60 ∧ p.length ≤ 100
  · rw [decide_eq_true q1] at hfw
    obtain ⟨q1, q2⟩ := q1
    refine goT [cA Try.func7 hfw, ntO true] hR (fun _ h => h) I fun β1 a1 w1 I hb1 => ?_
    by_cases he : rfE l p = 0
    · have hrs : p.Pairwise (· < ·) := wh_rise (n := l.length) (by
        cases hq : whB l.length p with
        | true => rfl
        | false => unfold rfE at he; rw [if_pos hq] at he; cases he)
      have hall := pd_all h l p
      have hTr := transfer_ok (I.hJ.at 0 (f := alF (.slice ad l.length cap) l) rfl) (I.hJ.at 1 (f := inF (.slice adp p.length capp) p) rfl) (by omega) (by omega) he hrs hh
      obtain ⟨lft, hlft⟩ : ∃ z, h - (pdL h l p).sum = z := ⟨_, rfl⟩
      rw [hlft] at hTr
      refine mcall (f := 9) (ss := [Sum.inl (U h), Sum.inl (.slice ad l.length cap), Sum.inl (.slice adp p.length capp)]) Try.func9 I (hTr.mono fun e w2 hr => ?_)
      obtain ⟨v1, v2, rfl, hn⟩ := hr
      obtain ⟨K6, I⟩ := I.gs hn (.tuple #[v1, v2, U lft, Z 0])
      obtain ⟨ad1, cap1, hv1⟩ := (I.hJ.at 0 (f := alF v1 (rsL h l p)) rfl).slice
      obtain ⟨ad2, cap2, hv2⟩ := (I.hJ.at 1 (f := nuF v2 (pdL h l p)) rfl).slice
      rw [rsL_len] at hv1
      rw [pdL_len] at hv2
      subst hv1 hv2
      have hR6 := GS.rsr w w w.heap.size noK K6 ([alF (.slice ad1 l.length cap1) (rsL h l p), nuF (.slice ad2 l.length cap2) (pdL h l p)] ++ [alF (.slice ad l.length cap) l, inF (.slice adp p.length capp) p]) []
      refine goT (T := GS w w w.heap.size noK K6 ([alF (.slice ad1 l.length cap1) (rsL h l p), nuF (.slice ad2 l.length cap2) (pdL h l p)] ++ [alF (.slice ad l.length cap) l, inF (.slice adp p.length capp) p]) []) [bO .neq 30 (run_neE (x := 0) (y := 0) (b := false) rfl), lnA ad1 l.length cap1, lnA ad l.length cap, bO .neq 3 (run_neqZ (x := l.length) (y := l.length) (b := false) (decide_eq_false (fun h => h rfl))), lnU ad2 l.length cap2, lnA ad l.length cap, bO .neq 3 (run_neqZ (x := l.length) (y := l.length) (b := false) (decide_eq_false (fun h => h rfl))), dO 24 [] bd_Uz, lnA ad l.length cap] hR6 (fun _ h => h) I fun β7 a7 w7 I hb7 => ?_
      let St : Nat → Act → World → Prop := fun k a w' => ∃ (i : Nat) (β : Nat → Nat) (u : Nat → Value) (b : Bool) (A : Nat), k = l.length - i ∧ i ≤ l.length ∧ b = decide (h < smA (l.take i)) ∧ (b = false → A = smA (l.take i)) ∧ A < W ∧
        SI (GS w w w.heap.size noK K6 ([alF (.slice ad1 l.length cap1) (rsL h l p), nuF (.slice ad2 l.length cap2) (pdL h l p)] ++ [alF (.slice ad l.length cap) l, inF (.slice adp p.length capp) p]) []) (GF noK K6 []) [] β (cfC (bodyL Try.f4) (fillF (scrF 145 kpK) u 0 (kpV (.slice ad l.length cap) (.slice ad1 l.length cap1) (.slice ad2 l.length cap2) b l.length i)) [(0, rU h), (1, rU lft), (2, rU (lft + ((pdL h l p).take i).sum)), (3, rU A)] 4) a w'
      refine lpM (bodyL Try.f4) St l.length ?_ ?_
      · obtain ⟨u, Iu⟩ := I.scr (bodyL Try.f4) (scrF 145 kpK) (kpV (.slice ad l.length cap) (.slice ad1 l.length cap1) (.slice ad2 l.length cap2) false l.length 0) [(0, rU h), (1, rU lft), (2, rU lft), (3, rU 0)] 4
        exact ⟨0, β7, u, false, 0, by omega, Nat.zero_le _, by simp [smA], fun _ => by simp [smA], W_pos, by rw [show lft + ((pdL h l p).take 0).sum = lft by simp]; exact Iu⟩
      rintro k a8 w8 ⟨i, β8, u, b, A, rfl, hi, hbs, hbA, hAW, I⟩
      obtain ⟨S, hS⟩ : ∃ z, lft + ((pdL h l p).take i).sum = z := ⟨_, rfl⟩
      rw [hS] at I
      refine wp_cfC (tm := fillF (scrF 145 kpK) u 0 (kpV (.slice ad l.length cap) (.slice ad1 l.length cap1) (.slice ad2 l.length cap2) b l.length i)) (rows := [(0, rU h), (1, rU lft), (2, rU S), (3, rU A)]) (nx := 4) ?_
      rcases Nat.lt_or_ge i l.length with hil | hil
      · obtain ⟨x, hx⟩ : ∃ t, l[i]? = some t := ⟨_, List.getElem?_eq_getElem hil⟩
        obtain ⟨g, off, cs, rfl, hlt, hca, rfl, hxl⟩ := hml i _ hx
        have hr1 := rsL_get h p hx
        have hr2 := pdL_get h p hx
        obtain ⟨g1, off1, rfl⟩ : ∃ g off, ad1 = some ⟨g, off, none⟩ := by
          obtain ⟨ad', cap', he, hmc⟩ := I.hJ.at 0 (f := alF (.slice ad1 l.length cap1) (rsL h l p)) rfl
          rw [rsL_len] at he
          cases he
          obtain ⟨gc, offc, cs, h1, _⟩ := hmc i _ hr1
          exact ⟨gc, offc, h1⟩
        obtain ⟨g2, off2, rfl⟩ : ∃ g off, ad2 = some ⟨g, off, none⟩ := by
          obtain ⟨ad', cap', he, hmc⟩ := I.hJ.at 1 (f := nuF (.slice ad2 l.length cap2) (pdL h l p)) rfl
          rw [pdL_len] at he
          cases he
          obtain ⟨gc, offc, cs, h1, _⟩ := hmc i _ hr2
          exact ⟨gc, offc, h1⟩
        have hl1 : ∀ w', GS w w w.heap.size noK K6 ([alF (.slice (some ⟨g1, off1, none⟩) l.length cap1) (rsL h l p), nuF (.slice (some ⟨g2, off2, none⟩) l.length cap2) (pdL h l p)] ++ [alF (.slice (some ⟨g, off, none⟩) l.length cap) l, inF (.slice adp p.length capp) p]) [] w' → (loadVar 24 ⟨g1, off1 + i * 8 + 1, none⟩).run Try.prog w' = .ok (U (x.2.1 - pdN h l p i x)) w' := fun w' hw => by
          obtain ⟨ad', cap', he, hmc⟩ := hw.at 0 (f := alF (.slice (some ⟨g1, off1, none⟩) l.length cap1) (rsL h l p)) rfl
          rw [rsL_len] at he
          cases he
          obtain ⟨g', off', cs, he2, _, hcc, rfl, _⟩ := hmc i _ hr1
          cases he2
          exact loadU hcc
        have hl2 : ∀ w', GS w w w.heap.size noK K6 ([alF (.slice (some ⟨g1, off1, none⟩) l.length cap1) (rsL h l p), nuF (.slice (some ⟨g2, off2, none⟩) l.length cap2) (pdL h l p)] ++ [alF (.slice (some ⟨g, off, none⟩) l.length cap) l, inF (.slice adp p.length capp) p]) [] w' → (loadVar 24 ⟨g2, off2 + i * 4, none⟩).run Try.prog w' = .ok (U (pdN h l p i x)) w' := fun w' hw => by
          obtain ⟨ad', cap', he, hmc⟩ := hw.at 1 (f := nuF (.slice (some ⟨g2, off2, none⟩) l.length cap2) (pdL h l p)) rfl
          rw [pdL_len] at he
          cases he
          obtain ⟨g', off', cs, he2, _, hcc, rfl, _⟩ := hmc i _ hr2
          cases he2
          exact loadNu hcc
        have hl0 : ∀ w', GS w w w.heap.size noK K6 ([alF (.slice (some ⟨g1, off1, none⟩) l.length cap1) (rsL h l p), nuF (.slice (some ⟨g2, off2, none⟩) l.length cap2) (pdL h l p)] ++ [alF (.slice (some ⟨g, off, none⟩) l.length cap) l, inF (.slice adp p.length capp) p]) [] w' → (loadVar 24 ⟨g, off + i * 8 + 1, none⟩).run Try.prog w' = .ok (U x.2.1) w' := fun w' hw => loadU (hca.keep (hw.bw.block g hlt))
        have hst := smA_take hx
        have hps := sum_get hr2
        have hpt : ((pdL h l p).take (i + 1)).sum ≤ (pdL h l p).sum := by
          have e := congrArg List.sum (List.take_append_drop (i + 1) (pdL h l p))
          rw [List.sum_append] at e
          omega
        have hpa := Nat.le_trans (pdN_le h l p i x) (shN_le h l i x).2
        have hsh0 : b = true → pdN h l p i x = 0 := fun hb => pd_short (by rw [hbs] at hb; exact of_decide_eq_true hb)
        generalize pdN h l p i x = pd at *
        obtain ⟨am, ham⟩ : ∃ z, x.2.1 = z := ⟨_, rfl⟩
        rw [ham] at hl0 hl1 hst hpa hxl
        obtain ⟨S2, hS2⟩ : ∃ z, lft + ((pdL h l p).take (i + 1)).sum = z := ⟨_, rfl⟩
        have hA1 := kAddOk (s := S2) radd_any (n := S) (m := pd) (by omega) (by omega) (by omega) (by omega)
        have hA2 := kAddOk (s := am) radd_any (n := am - pd) (m := pd) (by omega) (by omega) (by omega) hxl
        have hRs := GS.rsr w w w.heap.size noK K6 ([alF (.slice (some ⟨g1, off1, none⟩) l.length cap1) (rsL h l p), nuF (.slice (some ⟨g2, off2, none⟩) l.length cap2) (pdL h l p)] ++ [alF (.slice (some ⟨g, off, none⟩) l.length cap) l, inF (.slice adp p.length capp) p]) []
        refine goQ [lT i l.length (by omega)] hRs I fun β9 a9 w9 I hb9 => ?_
        refine dwA (T := GS w w w.heap.size noK K6 ([alF (.slice (some ⟨g1, off1, none⟩) l.length cap1) (rsL h l p), nuF (.slice (some ⟨g2, off2, none⟩) l.length cap2) (pdL h l p)] ++ [alF (.slice (some ⟨g, off, none⟩) l.length cap) l, inF (.slice adp p.length capp) p]) []) 9 10 15 78 S2 [ixU g2 off2 l.length cap2 i hil, ldA 24 hl2, kC Try.func15 hA1] hRs (fun _ h => h) I fun b1 vs1 β10 a10 w10 hag10 I => ?_
        refine goQ [] hRs I fun β11 a11 w11 I hb11 => ?_
        refine dwA (T := GS w w w.heap.size noK K6 ([alF (.slice (some ⟨g1, off1, none⟩) l.length cap1) (rsL h l p), nuF (.slice (some ⟨g2, off2, none⟩) l.length cap2) (pdL h l p)] ++ [alF (.slice (some ⟨g, off, none⟩) l.length cap) l, inF (.slice adp p.length capp) p]) []) 13 14 17 91 am [ixA g1 off1 l.length cap1 i hil, ldA 24 hl1, ixU g2 off2 l.length cap2 i hil, ldA 24 hl2, kC Try.func15 hA2] hRs (fun _ h => h) I fun b2 vs2 β12 a12 w12 hag12 I => ?_
        refine goQ [] hRs I fun β13 a13 w13 I hb13 => ?_
        cases b with
        | true =>
          have hpd0 := hsh0 rfl
          subst hpd0
          have hbig : h < smA (l.take i) := of_decide_eq_true hbs.symm
          have hA3 := radd_any A am hAW hxl
          have hA2W := addW_lt A am
          generalize addW A am = A2 at *
          generalize ovW A am = q at *
          refine dwT (T := GS w w w.heap.size noK K6 ([alF (.slice (some ⟨g1, off1, none⟩) l.length cap1) (rsL h l p), nuF (.slice (some ⟨g2, off2, none⟩) l.length cap2) (pdL h l p)] ++ [alF (.slice (some ⟨g, off, none⟩) l.length cap) l, inF (.slice adp p.length capp) p]) []) 24 [ixA g off l.length cap i hil, ldA 24 hl0, bO .neq 24 (neqU_run hxl hxl (b := false) (decide_eq_false (fun h => h rfl))), ixU g2 off2 l.length cap2 i hil, ldA 24 hl2, dO 24 [] bd_Uz, bO .neq 24 (neqU_run W_pos W_pos (b := false) (decide_eq_false (fun h => h rfl)))] hRs (fun _ h => h) (PanOk.then (PanOk.qk PanOk.post)) I fun a14 w14 I => ?_
          refine goQ [] hRs I fun β15 a15 w15 I hb15 => ?_
          refine dwT (T := GS w w w.heap.size noK K6 ([alF (.slice (some ⟨g1, off1, none⟩) l.length cap1) (rsL h l p), nuF (.slice (some ⟨g2, off2, none⟩) l.length cap2) (pdL h l p)] ++ [alF (.slice (some ⟨g, off, none⟩) l.length cap) l, inF (.slice adp p.length capp) p]) []) 10 [ixA g off l.length cap i hil, ldA 24 hl0, kC Try.func15 hA3] hRs (fun _ h => h) (PanOk.then (PanOk.qk PanOk.post)) I fun a16 w16 I => ?_
          refine goQ [p1 i (by omega)] hRs I fun β17 a17 w17 I hb17 => ?_
          obtain ⟨u', Iu⟩ := I.scr (bodyL Try.f4) (scrF 145 kpK) (kpV (.slice (some ⟨g, off, none⟩) l.length cap) (.slice (some ⟨g1, off1, none⟩) l.length cap1) (.slice (some ⟨g2, off2, none⟩) l.length cap2) true l.length (i + 1)) [(0, rU h), (1, rU lft), (2, rU S2), (3, rU A2)] 4
          exact endL ⟨l.length - (i + 1), by omega, i + 1, β17, u', true, A2, rfl, hil, (decide_eq_true (by omega)).symm, fun h => (by cases h), hA2W, by rw [hS2]; exact Iu⟩
        | false =>
          have hAe := hbA rfl
          have hle : ¬ h < smA (l.take i) := of_decide_eq_false hbs.symm
          refine dwT (T := GS w w w.heap.size noK K6 ([alF (.slice (some ⟨g1, off1, none⟩) l.length cap1) (rsL h l p), nuF (.slice (some ⟨g2, off2, none⟩) l.length cap2) (pdL h l p)] ++ [alF (.slice (some ⟨g, off, none⟩) l.length cap) l, inF (.slice adp p.length capp) p]) []) 24 [ixA g off l.length cap i hil, ldA 24 hl0, bO .neq 24 (neqU_run hxl hxl (b := false) (decide_eq_false (fun h => h rfl)))] hRs (fun _ h => h) (PanOk.then (PanOk.qk PanOk.post)) I fun a14 w14 I => ?_
          rcases Nat.lt_or_ge (A + am) W with hov | hov
          · obtain ⟨A2, hA2⟩ : ∃ z, A + am = z := ⟨_, rfl⟩
            have hA3 := kAddOk (s := A2) radd_any hAW hxl hA2 (by omega)
            have hc := rcmp_any A2 h (by omega) hh
            have hg := cmp_gt (n := A2) (m := h)
            generalize cmpN A2 h = z at *
            obtain ⟨q, hq⟩ : ∃ q, decide (h < A2) = q := ⟨_, rfl⟩
            rw [hq] at hg
            refine goQ [] hRs I fun β15 a15 w15 I hb15 => ?_
            refine dwT (T := GS w w w.heap.size noK K6 ([alF (.slice (some ⟨g1, off1, none⟩) l.length cap1) (rsL h l p), nuF (.slice (some ⟨g2, off2, none⟩) l.length cap2) (pdL h l p)] ++ [alF (.slice (some ⟨g, off, none⟩) l.length cap) l, inF (.slice adp p.length capp) p]) []) 10 [ixA g off l.length cap i hil, ldA 24 hl0, kC Try.func15 hA3] hRs (fun _ h => h) (PanOk.then (PanOk.qk PanOk.post)) I fun a16 w16 I => ?_
            refine goQ [kC Try.func16 hc, bO .gtr 3 (run_gtrZ (x := z) (y := 0) (b := q) hg), p1 i (by omega)] hRs I fun β17 a17 w17 I hb17 => ?_
            obtain ⟨u', Iu⟩ := I.scr (bodyL Try.f4) (scrF 145 kpK) (kpV (.slice (some ⟨g, off, none⟩) l.length cap) (.slice (some ⟨g1, off1, none⟩) l.length cap1) (.slice (some ⟨g2, off2, none⟩) l.length cap2) q l.length (i + 1)) [(0, rU h), (1, rU lft), (2, rU S2), (3, rU A2)] 4
            exact endL ⟨l.length - (i + 1), by omega, i + 1, β17, u', q, A2, rfl, hil, by rw [← hq]; congr 1; apply propext; omega, fun _ => by omega, by omega, by rw [hS2]; exact Iu⟩
          · have hA3 := radd_any A am hAW hxl
            rw [show ovW A am = true from decide_eq_true hov] at hA3
            have hA2W := addW_lt A am
            generalize addW A am = A2 at *
            refine goQ [] hRs I fun β15 a15 w15 I hb15 => ?_
            refine dwT (T := GS w w w.heap.size noK K6 ([alF (.slice (some ⟨g1, off1, none⟩) l.length cap1) (rsL h l p), nuF (.slice (some ⟨g2, off2, none⟩) l.length cap2) (pdL h l p)] ++ [alF (.slice (some ⟨g, off, none⟩) l.length cap) l, inF (.slice adp p.length capp) p]) []) 10 [ixA g off l.length cap i hil, ldA 24 hl0, kC Try.func15 hA3] hRs (fun _ h => h) (PanOk.then (PanOk.qk PanOk.post)) I fun a16 w16 I => ?_
            refine goQ [p1 i (by omega)] hRs I fun β17 a17 w17 I hb17 => ?_
            obtain ⟨u', Iu⟩ := I.scr (bodyL Try.f4) (scrF 145 kpK) (kpV (.slice (some ⟨g, off, none⟩) l.length cap) (.slice (some ⟨g1, off1, none⟩) l.length cap1) (.slice (some ⟨g2, off2, none⟩) l.length cap2) true l.length (i + 1)) [(0, rU h), (1, rU lft), (2, rU S2), (3, rU A2)] 4
            exact endL ⟨l.length - (i + 1), by omega, i + 1, β17, u', true, A2, rfl, hil, (decide_eq_true (by omega)).symm, fun h => (by cases h), hA2W, by rw [hS2]; exact Iu⟩
      · obtain rfl : i = l.length := by omega
        have hSh : S = h := by
          rw [← hS, show (pdL h l p).take l.length = pdL h l p by rw [← pdL_len h l p, List.take_length]]
          omega
        subst hSh
        refine goQ [lF l.length l.length (by omega)] hR6 I fun β9 a9 w9 I hb9 => ?_
        refine endE 0 ?_
        refine goQ [bO .eql 24 (eqU_run hh hh (b := true) (decide_eq_true rfl)), kC Try.func8 haw] hR6 (I.exit _) fun β10 a10 w10 I hb10 => ?_
        exact outQ (v := .bool true) I ⟨rfl, I.hJ.bw⟩
    · refine mcall (f := 9) (ss := [Sum.inl (U h), Sum.inl (.slice ad l.length cap), Sum.inl (.slice adp p.length capp)]) Try.func9 I ((transfer_err (h := h) (I.hJ.at 0 (f := alF (.slice ad l.length cap) l) rfl) (I.hJ.at 1 (f := inF (.slice adp p.length capp) p) rfl) (by omega) (by omega) he).mono fun e w2 hr => ?_)
      obtain ⟨v1, rfl, hn⟩ := hr
      obtain ⟨K2, I⟩ := I.gs hn (.tuple #[v1, .slice none 0 0, U h, Z (rfE l p)])
      have hS := fun (w' : World) (hw : GS w w w.heap.size noK K2 ([alF v1 l] ++ [alF (.slice ad l.length cap) l, inF (.slice adp p.length capp) p]) [] w') => same_any (hw.at 0 (f := alF v1 l) rfl) (hw.at 1 (f := alF (.slice ad l.length cap) l) rfl) (by omega)
      rw [decide_eq_true rfl] at hS
      generalize rfE l p = er at *
      refine goT [bO .neq 30 (run_neE (x := er) (y := 0) (b := true) (decide_eq_true he)), cA Try.func14 hS, lnU none 0 0, bO .eql 3 (run_eqlZ (x := (0 : Nat)) (y := 0) (b := true) rfl), bO .eql 24 (eqU_run hh hh (b := true) (decide_eq_true rfl)), kC Try.func8 haw] (GS.rsr _ _ _ _ _ _ _) (fun _ h => h) I fun β3 a3 w3 I hb3 => ?_
      exact outQ (v := .bool true) I ⟨rfl, I.hJ.bw⟩
  · rw [decide_eq_false q1] at hfw
    refine goT [cA Try.func7 hfw, ntO false, kC Try.func8 haw] hR (fun _ h => h) I fun β1 a1 w1 I hb1 => ?_
    exact outQ (v := .bool true) I ⟨rfl, I.hJ.bw⟩
end Go.Proofs.Ytabghfcjpaileaa
