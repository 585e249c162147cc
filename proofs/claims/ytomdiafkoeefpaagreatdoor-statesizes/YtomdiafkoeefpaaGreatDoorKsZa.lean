/- Out of Za. -/
import Derived.Test.YtomdiafkoeefpaaGreatDoorKsTx
import Derived.Test.YtomdiafkoeefpaaGreatDoorKsTy
import Derived.Sort.Walk0
namespace Go.Proofs.YtomdiafkoeefpaaGreatDoor
open Go.RowKit Go.Sort
set_option linter.unusedVariables false
set_option maxRecDepth 100000
theorem ltB_irr (a : ByteArray) : ltB a a = false := by
  unfold ltB
  rw [bytesLess_eq, decide_eq_false (fun h => List.lt_irrefl _ h)]
theorem ltB_asym {a b : ByteArray} (h : ltB a b = true) : ltB b a = false := by
  unfold ltB at h ⊢
  rw [bytesLess_eq] at h ⊢
  exact decide_eq_false fun h2 => List.lt_asymm (of_decide_eq_true h) h2
theorem fit_tot {l : List Ex} (h : fitXs l = true) {x : Ex} (hx : x ∈ l) : totS l x.1 < W := by
  unfold fitXs at h
  simp only [Bool.and_eq_true, decide_eq_true_eq, List.all_eq_true] at h
  obtain ⟨⟨h1, h2⟩, h3⟩ := h
  have hs : ∀ y ∈ l, sumA y.2 < W := fun y hy => by
    have := h3 y hy
    unfold fitE at this
    simp only [Bool.and_eq_true, decide_eq_true_eq] at this
    exact this.2
  have hne : ∀ {a b : ByteArray}, ltB a b = true → a ≠ b := fun h e => by subst e; rw [ltB_irr] at h; cases h
  match l, h1 with
  | [], _ => cases hx
  | [a], _ =>
    simp only [List.mem_singleton] at hx
    subst hx
    have := hs x (by simp)
    simp [totS]; exact this
  | [a, b], _ =>
    have q1 : ltB a.1 b.1 = true := risB_iff.1 h2 0 a b rfl rfl
    have n1 := hne q1
    have ha := hs a (by simp)
    have hb := hs b (by simp)
    simp only [List.mem_cons, List.not_mem_nil, or_false] at hx
    rcases hx with rfl | rfl
    · simp [totS, n1.symm]; exact ha
    · simp [totS, n1]; exact hb
  | [a, b, c], _ =>
    have q1 : ltB a.1 b.1 = true := risB_iff.1 h2 0 a b rfl rfl
    have q2 : ltB b.1 c.1 = true := risB_iff.1 h2 1 b c rfl rfl
    have n1 := hne q1
    have n2 := hne q2
    have n3 : a.1 ≠ c.1 := fun e => by
      rw [← e] at q2
      rw [ltB_asym q1] at q2
      cases q2
    have ha := hs a (by simp)
    have hb := hs b (by simp)
    have hc := hs c (by simp)
    simp only [List.mem_cons, List.not_mem_nil, or_false] at hx
    rcases hx with rfl | rfl | rfl
    · simp [totS, n1.symm, n3.symm]; exact ha
    · simp [totS, n1, n2.symm]; exact hb
    · simp [totS, n3, n2]; exact hc
theorem neq4_run {x y : Bool} {b : Bool} (h : (x != y) = b) (o1 o2 : Operand) (w : World) : (do eqGuard .neq 4 o1 o2 (.bool x) (.bool y); binOp .neq 4 (.bool x) (.bool y) : Sem Value).run Tryz.prog w = .ok (.bool b) w := by
  subst h
  cases x <;> cases y <;> simp [go_sem]
theorem fewX.ok {l : List Ex} (h : fewX l) : okX l := ⟨by have := h.1; omega, fun x hx => by have := h.2 x hx; omega⟩
abbrev snK : List Nat := [0, 1, 2, 3, 4, 5, 6, 43, 44, 45]
abbrev snV (fv vv ev : Value) (bf bi : Bool) (n i : Nat) : Vs := frm 64 [(0, Sum.inl fv), (1, Sum.inl vv), (2, Sum.inr (0, 0)), (3, Sum.inr (1, 0)), (4, Sum.inl (.bool false)), (5, Sum.inl (.bool bf)), (6, Sum.inl (.bool bi)), (43, Sum.inl ev), (44, Sum.inl (Z n)), (45, Sum.inl (Z i))]
theorem sizes_walk {w : World} (ht : Tabs w ki) {f : Fi} {pv : Value} (hp : PaI w pv f.1) (hn : f.2.1 < M) {v : Va} {ev : Value} (hx : ExI w ev v.2.2.2) (htu : v.1 < M) : Calls Tryz.prog 7 #[fxdV f pv, vaV v ev] w fun e w' => e = .returned (.bool true) ∧ Below w.heap.size w w' := by
  have hAw : ∀ w', Below w.heap.size w w' → Calls Tryz.prog 11 #[] w' fun e w'' => e = .returned (.bool true) ∧ Below w'.heap.size w' w'' := fun w' hb => awake_any (ht.below hb)
  obtain ⟨adp, capp, hpv, _⟩ := id hp.2
  obtain ⟨ad, cap, hev, hm⟩ := id hx
  subst hpv hev
  obtain ⟨bf, hbf⟩ : ∃ b, fitF f = b := ⟨_, rfl⟩
  obtain ⟨bi, hbi⟩ : ∃ b, fitV v = b := ⟨_, rfl⟩
  have hFF : ∀ w', Below w.heap.size w w' → Calls Tryz.prog 14 #[fxdV f (.slice adp f.1.length capp)] w' fun e w'' => e = .returned (.bool bf) ∧ Below w'.heap.size w' w'' := fun w' hb => by rw [← hbf]; exact fitFixed_any (hp.below hb)
  have hFV : okX v.2.2.2 → ∀ w', Below w.heap.size w w' → Calls Tryz.prog 16 #[vaV v (.slice ad v.2.2.2.length cap)] w' fun e w'' => e = .returned (.bool bi) ∧ Below w'.heap.size w' w'' := fun hok w' hb => by rw [← hbi]; exact fitVar_any (hx.below CE.loc hb) hok
  have hId : ∀ w', Below w.heap.size w w' → Calls Tryz.prog 26 #[fxdV f (.slice adp f.1.length capp)] w' fun e w'' => e = .returned (str (idF f)) ∧ Below w'.heap.size w' w'' := fun w' hb => id_any (ht.below hb) (hp.below hb) hn
  have hDi : okX v.2.2.2 → ∀ w', Below w.heap.size w w' → Calls Tryz.prog 28 #[fxdV f (.slice adp f.1.length capp), vaV v (.slice ad v.2.2.2.length cap)] w' fun e w'' => e = .returned (str (digM f v)) ∧ Below w'.heap.size w' w'' := fun hok w' hb => digest_any (ht.below hb) (hp.below hb) hn (hx.below CE.loc hb) hok htu
  have hn1 : decide (((idF f).length : Int) = 32) = bf := by
    unfold idF
    rw [hbf]
    cases bf
    · rfl
    · rw [if_pos rfl, sumL_len]; rfl
  have hn2 : decide (((digM f v).length : Int) = 32) = (bf && bi) := by
    unfold digM
    rw [hbf, hbi]
    cases (bf && bi)
    · rfl
    · rw [if_pos rfl, sumL_len]; rfl
  have hgoes : ∀ x ∈ v.2.2.2, bi = true → totS v.2.2.2 x.1 < W := fun x hxm h => by
    subst h
    unfold fitV at hbi
    simp only [Bool.and_eq_true] at hbi
    exact fit_tot hbi.2 hxm
  obtain ⟨S1, hS1⟩ : ∃ S, idF f = S := ⟨_, rfl⟩
  obtain ⟨S2, hS2⟩ : ∃ S, digM f v = S := ⟨_, rfl⟩
  rw [hS1] at hId hn1
  rw [hS2] at hDi hn2
  clear hbf hbi hS1 hS2
  have hfe1 : ∀ w', Below w.heap.size w w' → Calls Tryz.prog 9 #[fxdV f (.slice adp f.1.length capp)] w' _ := fun w' hb => few_fixed (hp.below hb).1
  have hfe2 : ∀ w', Below w.heap.size w w' → Calls Tryz.prog 10 #[vaV v (.slice ad v.2.2.2.length cap)] w' _ := fun w' hb => few_state (hx.below CE.loc hb)
  obtain ⟨tu, fi, da, xs⟩ := v
  obtain ⟨ps, no, ap, ti⟩ := f
  simp only [] at hx hm hgoes hp hn
  have hz1 := str_size S1
  have hz2 := str_size S2
  obtain ⟨bd, hbd⟩ : ∃ b, (bf && bi) = b := ⟨_, rfl⟩
  rw [hbd] at hn2
  refine inQ (J := Below w.heap.size w) (F := (· < w.heap.size)) Tryz.func7 (Below.refl _ _) fun a I => ?_
  refine goQ [] (nonR w) I fun β a w1 I hb => ?_
  refine bcall [Sum.inl (.agg #[.slice adp ps.length capp, B no, .string ap, Z ti])] Tryz.func9 (nonR w) I _ (hfe1 w1 I.hJ) fun v' w2 hv I => ?_
  rcases hv with rfl | ⟨rfl, hfew1⟩
  · refine goT (T := Below w.heap.size w) [uO .not (p := .bool false) (v := .bool true) (by intros; rfl), cA Tryz.func11 hAw] (nonR w) (fun _ h => h) I fun β6 a6 w6 I hb6 => ?_
    exact outQ (v := .bool true) I ⟨rfl, I.hJ⟩
  refine goQ [uO .not (p := .bool true) (v := .bool false) (by intros; rfl)] (nonR w) I fun β a w1 I hb => ?_
  refine bcall [Sum.inl (.agg #[B tu, .bool fi, .string da, .slice ad xs.length cap])] Tryz.func10 (nonR w) I _ (hfe2 w1 I.hJ) fun v' w2 hv I => ?_
  rcases hv with rfl | ⟨rfl, hfew2⟩
  · refine goT (T := Below w.heap.size w) [uO .not (p := .bool false) (v := .bool true) (by intros; rfl), cA Tryz.func11 hAw] (nonR w) (fun _ h => h) I fun β6 a6 w6 I hb6 => ?_
    exact outQ (v := .bool true) I ⟨rfl, I.hJ⟩
  have hok : okX xs := hfew2.ok
  have hFV := hFV hok
  have hDi := hDi hok
  refine goQ [uO .not (p := .bool true) (v := .bool false) (by intros; rfl)] (nonR w) I fun β a w1 I hb => ?_
  refine dwT (T := Below w.heap.size w) 6 [cA Tryz.func14 hFF, cA Tryz.func16 hFV] (nonR w) (fun _ h => h) PanOk.post I fun a2 w2 I => ?_
  have hlen : xs.length ≤ 20 := hfew2.1
  cases bf <;> cases bi <;> cases hbd
  · refine goT (T := Below w.heap.size w) [cA Tryz.func26 hId, lO Tryz.underlying9 (b := ⟨S1.toArray⟩) (n := S1.length) (by rw [hz1]), bO .eql 3 (run_eqlZ (x := S1.length) (y := 32) hn1), bO .neq 4 (neq4_run (x := false) (y := false) (b := false) rfl), cA Tryz.func28 hDi, lO Tryz.underlying9 (b := ⟨S2.toArray⟩) (n := S2.length) (by rw [hz2]), bO .eql 3 (run_eqlZ (x := S2.length) (y := 32) hn2), bO .neq 4 (neq4_run (x := false) (y := false) (b := false) rfl), lS Tryz.underlying26 (ad := ad) (n := xs.length) (cap := cap) rfl] (nonR w) (fun _ h => h) I fun β3 a3 w3 I hb3 => ?_
    refine lpM (bodyL Tryz.f7) (fun k a w' => ∃ (i : Nat) (β : Nat → Nat) (u : Nat → Value), k = xs.length - i ∧ i ≤ xs.length ∧
        SI (Below w.heap.size w) (· < w.heap.size) [] β (cfC (bodyL Tryz.f7) (fillF (scrF 64 snK) u 0 (snV (.agg #[.slice adp ps.length capp, B no, .string ap, Z ti]) (.agg #[B tu, .bool fi, .string da, .slice ad xs.length cap]) (.slice ad xs.length cap) false false xs.length i)) [(0, #[.slice adp ps.length capp, B no, .string ap, Z ti]), (1, #[B tu, .bool fi, .string da, .slice ad xs.length cap])] 2) a w') xs.length ?_ ?_
    · obtain ⟨u, Iu⟩ := I.scr (bodyL Tryz.f7) (scrF 64 snK) (snV (.agg #[.slice adp ps.length capp, B no, .string ap, Z ti]) (.agg #[B tu, .bool fi, .string da, .slice ad xs.length cap]) (.slice ad xs.length cap) false false xs.length 0) [(0, #[.slice adp ps.length capp, B no, .string ap, Z ti]), (1, #[B tu, .bool fi, .string da, .slice ad xs.length cap])] 2
      exact ⟨0, β3, u, by omega, Nat.zero_le _, Iu⟩
    rintro k a4 w4 ⟨i, β4, u, rfl, hi, I⟩
    refine wp_cfC (tm := fillF (scrF 64 snK) u 0 (snV (.agg #[.slice adp ps.length capp, B no, .string ap, Z ti]) (.agg #[B tu, .bool fi, .string da, .slice ad xs.length cap]) (.slice ad xs.length cap) false false xs.length i)) (rows := [(0, #[.slice adp ps.length capp, B no, .string ap, Z ti]), (1, #[B tu, .bool fi, .string da, .slice ad xs.length cap])]) (nx := 2) ?_
    rcases Nat.lt_or_ge i xs.length with hil | hil
    · obtain ⟨⟨sa, al⟩, h1⟩ : ∃ t, xs[i]? = some t := ⟨_, List.getElem?_eq_getElem hil⟩
      obtain ⟨ga, offa, cs, rfl, hlt, hca, av, rfl, ada, capa, rfl, hma⟩ := hm i _ h1
      simp only [] at hca hma
      have hld : ∀ w', Below w.heap.size w w' → (loadVar 38 ⟨ga, offa + i * 2, none⟩).run Tryz.prog w' = .ok (.agg #[.string sa, .slice ada al.length capa]) w' := fun w' hb => loadEx (hca.keep (hb.block ga hlt))
      by_cases hW : totS xs sa < W
      · have hTo : ∀ w', Below w.heap.size w w' → Calls Tryz.prog 12 #[.slice (some ⟨ga, offa, none⟩) xs.length cap, .string sa] w' fun e w'' => e = .returned (.tuple #[U (totS xs sa), .bool true]) ∧ Below w'.heap.size w' w'' := fun w' hb => by
          have := total_any (hx.below CE.loc hb) sa hok.1 hok.2
          unfold totV at this
          rwa [if_pos hW] at this
        generalize totS xs sa = tt at hTo
        refine goT (T := Below w.heap.size w) [bO .lss 3 (run_lssZ (x := i) (y := xs.length) (b := true) (by simp; omega)), iA 26 Tryz.underlying26 (sz := 2) (by kernel_rfl) (g := ga) (off := offa) (n := xs.length) (cap := cap) hil, ldA 38 hld, cA Tryz.func12 hTo, bO .add 3 (run_addZ (x := i) (y := 1) (z := (i + 1 : Nat)) (by rw [wz (by omega) (by omega)]; omega))] (nonR w) (fun _ h => h) I fun β5 a5 w5 I hb5 => ?_
        obtain ⟨u', Iu⟩ := I.scr (bodyL Tryz.f7) (scrF 64 snK) (snV (.agg #[.slice adp ps.length capp, B no, .string ap, Z ti]) (.agg #[B tu, .bool fi, .string da, .slice (some ⟨ga, offa, none⟩) xs.length cap]) (.slice (some ⟨ga, offa, none⟩) xs.length cap) false false xs.length (i + 1)) [(0, #[.slice adp ps.length capp, B no, .string ap, Z ti]), (1, #[B tu, .bool fi, .string da, .slice (some ⟨ga, offa, none⟩) xs.length cap])] 2
        exact endL ⟨xs.length - (i + 1), by omega, i + 1, β5, u', rfl, hil, Iu⟩
      · have hTo : ∀ w', Below w.heap.size w w' → Calls Tryz.prog 12 #[.slice (some ⟨ga, offa, none⟩) xs.length cap, .string sa] w' fun e w'' => e = .returned (.tuple #[U 0, .bool false]) ∧ Below w'.heap.size w' w'' := fun w' hb => by
          have := total_any (hx.below CE.loc hb) sa hok.1 hok.2
          unfold totV at this
          rwa [if_neg hW] at this
        refine goT (T := Below w.heap.size w) [bO .lss 3 (run_lssZ (x := i) (y := xs.length) (b := true) (by simp; omega)), iA 26 Tryz.underlying26 (sz := 2) (by kernel_rfl) (g := ga) (off := offa) (n := xs.length) (cap := cap) hil, ldA 38 hld, cA Tryz.func12 hTo, bO .add 3 (run_addZ (x := i) (y := 1) (z := (i + 1 : Nat)) (by rw [wz (by omega) (by omega)]; omega))] (nonR w) (fun _ h => h) I fun β5 a5 w5 I hb5 => ?_
        obtain ⟨u', Iu⟩ := I.scr (bodyL Tryz.f7) (scrF 64 snK) (snV (.agg #[.slice adp ps.length capp, B no, .string ap, Z ti]) (.agg #[B tu, .bool fi, .string da, .slice (some ⟨ga, offa, none⟩) xs.length cap]) (.slice (some ⟨ga, offa, none⟩) xs.length cap) false false xs.length (i + 1)) [(0, #[.slice adp ps.length capp, B no, .string ap, Z ti]), (1, #[B tu, .bool fi, .string da, .slice (some ⟨ga, offa, none⟩) xs.length cap])] 2
        exact endL ⟨xs.length - (i + 1), by omega, i + 1, β5, u', rfl, hil, Iu⟩
    · obtain rfl : i = xs.length := by omega
      refine goQ [bO .lss 3 (run_lssZ (x := xs.length) (y := xs.length) (b := false) (by simp))] (nonR w) I fun β5 a5 w5 I hb5 => ?_
      refine endE 0 ?_
      refine goT (T := Below w.heap.size w) [cA Tryz.func11 hAw] (nonR w) (fun _ h => h) (I.exit _) fun β6 a6 w6 I hb6 => ?_
      exact outQ (v := .bool true) I ⟨rfl, I.hJ⟩
  · refine goT (T := Below w.heap.size w) [cA Tryz.func26 hId, lO Tryz.underlying9 (b := ⟨S1.toArray⟩) (n := S1.length) (by rw [hz1]), bO .eql 3 (run_eqlZ (x := S1.length) (y := 32) hn1), bO .neq 4 (neq4_run (x := false) (y := false) (b := false) rfl), cA Tryz.func28 hDi, lO Tryz.underlying9 (b := ⟨S2.toArray⟩) (n := S2.length) (by rw [hz2]), bO .eql 3 (run_eqlZ (x := S2.length) (y := 32) hn2), bO .neq 4 (neq4_run (x := false) (y := false) (b := false) rfl), lS Tryz.underlying26 (ad := ad) (n := xs.length) (cap := cap) rfl] (nonR w) (fun _ h => h) I fun β3 a3 w3 I hb3 => ?_
    refine lpM (bodyL Tryz.f7) (fun k a w' => ∃ (i : Nat) (β : Nat → Nat) (u : Nat → Value), k = xs.length - i ∧ i ≤ xs.length ∧
        SI (Below w.heap.size w) (· < w.heap.size) [] β (cfC (bodyL Tryz.f7) (fillF (scrF 64 snK) u 0 (snV (.agg #[.slice adp ps.length capp, B no, .string ap, Z ti]) (.agg #[B tu, .bool fi, .string da, .slice ad xs.length cap]) (.slice ad xs.length cap) false true xs.length i)) [(0, #[.slice adp ps.length capp, B no, .string ap, Z ti]), (1, #[B tu, .bool fi, .string da, .slice ad xs.length cap])] 2) a w') xs.length ?_ ?_
    · obtain ⟨u, Iu⟩ := I.scr (bodyL Tryz.f7) (scrF 64 snK) (snV (.agg #[.slice adp ps.length capp, B no, .string ap, Z ti]) (.agg #[B tu, .bool fi, .string da, .slice ad xs.length cap]) (.slice ad xs.length cap) false true xs.length 0) [(0, #[.slice adp ps.length capp, B no, .string ap, Z ti]), (1, #[B tu, .bool fi, .string da, .slice ad xs.length cap])] 2
      exact ⟨0, β3, u, by omega, Nat.zero_le _, Iu⟩
    rintro k a4 w4 ⟨i, β4, u, rfl, hi, I⟩
    refine wp_cfC (tm := fillF (scrF 64 snK) u 0 (snV (.agg #[.slice adp ps.length capp, B no, .string ap, Z ti]) (.agg #[B tu, .bool fi, .string da, .slice ad xs.length cap]) (.slice ad xs.length cap) false true xs.length i)) (rows := [(0, #[.slice adp ps.length capp, B no, .string ap, Z ti]), (1, #[B tu, .bool fi, .string da, .slice ad xs.length cap])]) (nx := 2) ?_
    rcases Nat.lt_or_ge i xs.length with hil | hil
    · obtain ⟨⟨sa, al⟩, h1⟩ : ∃ t, xs[i]? = some t := ⟨_, List.getElem?_eq_getElem hil⟩
      obtain ⟨ga, offa, cs, rfl, hlt, hca, av, rfl, ada, capa, rfl, hma⟩ := hm i _ h1
      simp only [] at hca hma
      have hld : ∀ w', Below w.heap.size w w' → (loadVar 38 ⟨ga, offa + i * 2, none⟩).run Tryz.prog w' = .ok (.agg #[.string sa, .slice ada al.length capa]) w' := fun w' hb => loadEx (hca.keep (hb.block ga hlt))
      by_cases hW : totS xs sa < W
      · have hTo : ∀ w', Below w.heap.size w w' → Calls Tryz.prog 12 #[.slice (some ⟨ga, offa, none⟩) xs.length cap, .string sa] w' fun e w'' => e = .returned (.tuple #[U (totS xs sa), .bool true]) ∧ Below w'.heap.size w' w'' := fun w' hb => by
          have := total_any (hx.below CE.loc hb) sa hok.1 hok.2
          unfold totV at this
          rwa [if_pos hW] at this
        generalize totS xs sa = tt at hTo
        refine goT (T := Below w.heap.size w) [bO .lss 3 (run_lssZ (x := i) (y := xs.length) (b := true) (by simp; omega)), iA 26 Tryz.underlying26 (sz := 2) (by kernel_rfl) (g := ga) (off := offa) (n := xs.length) (cap := cap) hil, ldA 38 hld, cA Tryz.func12 hTo, uO .not (p := .bool true) (v := .bool false) (by intros; rfl), bO .add 3 (run_addZ (x := i) (y := 1) (z := (i + 1 : Nat)) (by rw [wz (by omega) (by omega)]; omega))] (nonR w) (fun _ h => h) I fun β5 a5 w5 I hb5 => ?_
        obtain ⟨u', Iu⟩ := I.scr (bodyL Tryz.f7) (scrF 64 snK) (snV (.agg #[.slice adp ps.length capp, B no, .string ap, Z ti]) (.agg #[B tu, .bool fi, .string da, .slice (some ⟨ga, offa, none⟩) xs.length cap]) (.slice (some ⟨ga, offa, none⟩) xs.length cap) false true xs.length (i + 1)) [(0, #[.slice adp ps.length capp, B no, .string ap, Z ti]), (1, #[B tu, .bool fi, .string da, .slice (some ⟨ga, offa, none⟩) xs.length cap])] 2
        exact endL ⟨xs.length - (i + 1), by omega, i + 1, β5, u', rfl, hil, Iu⟩
      · exact absurd (hgoes _ (List.mem_of_getElem? h1) rfl) hW
    · obtain rfl : i = xs.length := by omega
      refine goQ [bO .lss 3 (run_lssZ (x := xs.length) (y := xs.length) (b := false) (by simp))] (nonR w) I fun β5 a5 w5 I hb5 => ?_
      refine endE 0 ?_
      refine goT (T := Below w.heap.size w) [cA Tryz.func11 hAw] (nonR w) (fun _ h => h) (I.exit _) fun β6 a6 w6 I hb6 => ?_
      exact outQ (v := .bool true) I ⟨rfl, I.hJ⟩
  · refine goT (T := Below w.heap.size w) [cA Tryz.func26 hId, lO Tryz.underlying9 (b := ⟨S1.toArray⟩) (n := S1.length) (by rw [hz1]), bO .eql 3 (run_eqlZ (x := S1.length) (y := 32) hn1), bO .neq 4 (neq4_run (x := true) (y := true) (b := false) rfl), cA Tryz.func28 hDi, lO Tryz.underlying9 (b := ⟨S2.toArray⟩) (n := S2.length) (by rw [hz2]), bO .eql 3 (run_eqlZ (x := S2.length) (y := 32) hn2), bO .neq 4 (neq4_run (x := false) (y := false) (b := false) rfl), lS Tryz.underlying26 (ad := ad) (n := xs.length) (cap := cap) rfl] (nonR w) (fun _ h => h) I fun β3 a3 w3 I hb3 => ?_
    refine lpM (bodyL Tryz.f7) (fun k a w' => ∃ (i : Nat) (β : Nat → Nat) (u : Nat → Value), k = xs.length - i ∧ i ≤ xs.length ∧
        SI (Below w.heap.size w) (· < w.heap.size) [] β (cfC (bodyL Tryz.f7) (fillF (scrF 64 snK) u 0 (snV (.agg #[.slice adp ps.length capp, B no, .string ap, Z ti]) (.agg #[B tu, .bool fi, .string da, .slice ad xs.length cap]) (.slice ad xs.length cap) true false xs.length i)) [(0, #[.slice adp ps.length capp, B no, .string ap, Z ti]), (1, #[B tu, .bool fi, .string da, .slice ad xs.length cap])] 2) a w') xs.length ?_ ?_
    · obtain ⟨u, Iu⟩ := I.scr (bodyL Tryz.f7) (scrF 64 snK) (snV (.agg #[.slice adp ps.length capp, B no, .string ap, Z ti]) (.agg #[B tu, .bool fi, .string da, .slice ad xs.length cap]) (.slice ad xs.length cap) true false xs.length 0) [(0, #[.slice adp ps.length capp, B no, .string ap, Z ti]), (1, #[B tu, .bool fi, .string da, .slice ad xs.length cap])] 2
      exact ⟨0, β3, u, by omega, Nat.zero_le _, Iu⟩
    rintro k a4 w4 ⟨i, β4, u, rfl, hi, I⟩
    refine wp_cfC (tm := fillF (scrF 64 snK) u 0 (snV (.agg #[.slice adp ps.length capp, B no, .string ap, Z ti]) (.agg #[B tu, .bool fi, .string da, .slice ad xs.length cap]) (.slice ad xs.length cap) true false xs.length i)) (rows := [(0, #[.slice adp ps.length capp, B no, .string ap, Z ti]), (1, #[B tu, .bool fi, .string da, .slice ad xs.length cap])]) (nx := 2) ?_
    rcases Nat.lt_or_ge i xs.length with hil | hil
    · obtain ⟨⟨sa, al⟩, h1⟩ : ∃ t, xs[i]? = some t := ⟨_, List.getElem?_eq_getElem hil⟩
      obtain ⟨ga, offa, cs, rfl, hlt, hca, av, rfl, ada, capa, rfl, hma⟩ := hm i _ h1
      simp only [] at hca hma
      have hld : ∀ w', Below w.heap.size w w' → (loadVar 38 ⟨ga, offa + i * 2, none⟩).run Tryz.prog w' = .ok (.agg #[.string sa, .slice ada al.length capa]) w' := fun w' hb => loadEx (hca.keep (hb.block ga hlt))
      by_cases hW : totS xs sa < W
      · have hTo : ∀ w', Below w.heap.size w w' → Calls Tryz.prog 12 #[.slice (some ⟨ga, offa, none⟩) xs.length cap, .string sa] w' fun e w'' => e = .returned (.tuple #[U (totS xs sa), .bool true]) ∧ Below w'.heap.size w' w'' := fun w' hb => by
          have := total_any (hx.below CE.loc hb) sa hok.1 hok.2
          unfold totV at this
          rwa [if_pos hW] at this
        generalize totS xs sa = tt at hTo
        refine goT (T := Below w.heap.size w) [bO .lss 3 (run_lssZ (x := i) (y := xs.length) (b := true) (by simp; omega)), iA 26 Tryz.underlying26 (sz := 2) (by kernel_rfl) (g := ga) (off := offa) (n := xs.length) (cap := cap) hil, ldA 38 hld, cA Tryz.func12 hTo, bO .add 3 (run_addZ (x := i) (y := 1) (z := (i + 1 : Nat)) (by rw [wz (by omega) (by omega)]; omega))] (nonR w) (fun _ h => h) I fun β5 a5 w5 I hb5 => ?_
        obtain ⟨u', Iu⟩ := I.scr (bodyL Tryz.f7) (scrF 64 snK) (snV (.agg #[.slice adp ps.length capp, B no, .string ap, Z ti]) (.agg #[B tu, .bool fi, .string da, .slice (some ⟨ga, offa, none⟩) xs.length cap]) (.slice (some ⟨ga, offa, none⟩) xs.length cap) true false xs.length (i + 1)) [(0, #[.slice adp ps.length capp, B no, .string ap, Z ti]), (1, #[B tu, .bool fi, .string da, .slice (some ⟨ga, offa, none⟩) xs.length cap])] 2
        exact endL ⟨xs.length - (i + 1), by omega, i + 1, β5, u', rfl, hil, Iu⟩
      · have hTo : ∀ w', Below w.heap.size w w' → Calls Tryz.prog 12 #[.slice (some ⟨ga, offa, none⟩) xs.length cap, .string sa] w' fun e w'' => e = .returned (.tuple #[U 0, .bool false]) ∧ Below w'.heap.size w' w'' := fun w' hb => by
          have := total_any (hx.below CE.loc hb) sa hok.1 hok.2
          unfold totV at this
          rwa [if_neg hW] at this
        refine goT (T := Below w.heap.size w) [bO .lss 3 (run_lssZ (x := i) (y := xs.length) (b := true) (by simp; omega)), iA 26 Tryz.underlying26 (sz := 2) (by kernel_rfl) (g := ga) (off := offa) (n := xs.length) (cap := cap) hil, ldA 38 hld, cA Tryz.func12 hTo, bO .add 3 (run_addZ (x := i) (y := 1) (z := (i + 1 : Nat)) (by rw [wz (by omega) (by omega)]; omega))] (nonR w) (fun _ h => h) I fun β5 a5 w5 I hb5 => ?_
        obtain ⟨u', Iu⟩ := I.scr (bodyL Tryz.f7) (scrF 64 snK) (snV (.agg #[.slice adp ps.length capp, B no, .string ap, Z ti]) (.agg #[B tu, .bool fi, .string da, .slice (some ⟨ga, offa, none⟩) xs.length cap]) (.slice (some ⟨ga, offa, none⟩) xs.length cap) true false xs.length (i + 1)) [(0, #[.slice adp ps.length capp, B no, .string ap, Z ti]), (1, #[B tu, .bool fi, .string da, .slice (some ⟨ga, offa, none⟩) xs.length cap])] 2
        exact endL ⟨xs.length - (i + 1), by omega, i + 1, β5, u', rfl, hil, Iu⟩
    · obtain rfl : i = xs.length := by omega
      refine goQ [bO .lss 3 (run_lssZ (x := xs.length) (y := xs.length) (b := false) (by simp))] (nonR w) I fun β5 a5 w5 I hb5 => ?_
      refine endE 0 ?_
      refine goT (T := Below w.heap.size w) [cA Tryz.func11 hAw] (nonR w) (fun _ h => h) (I.exit _) fun β6 a6 w6 I hb6 => ?_
      exact outQ (v := .bool true) I ⟨rfl, I.hJ⟩
  · refine goT (T := Below w.heap.size w) [cA Tryz.func26 hId, lO Tryz.underlying9 (b := ⟨S1.toArray⟩) (n := S1.length) (by rw [hz1]), bO .eql 3 (run_eqlZ (x := S1.length) (y := 32) hn1), bO .neq 4 (neq4_run (x := true) (y := true) (b := false) rfl), cA Tryz.func28 hDi, lO Tryz.underlying9 (b := ⟨S2.toArray⟩) (n := S2.length) (by rw [hz2]), bO .eql 3 (run_eqlZ (x := S2.length) (y := 32) hn2), bO .neq 4 (neq4_run (x := true) (y := true) (b := false) rfl), lS Tryz.underlying26 (ad := ad) (n := xs.length) (cap := cap) rfl] (nonR w) (fun _ h => h) I fun β3 a3 w3 I hb3 => ?_
    refine lpM (bodyL Tryz.f7) (fun k a w' => ∃ (i : Nat) (β : Nat → Nat) (u : Nat → Value), k = xs.length - i ∧ i ≤ xs.length ∧
        SI (Below w.heap.size w) (· < w.heap.size) [] β (cfC (bodyL Tryz.f7) (fillF (scrF 64 snK) u 0 (snV (.agg #[.slice adp ps.length capp, B no, .string ap, Z ti]) (.agg #[B tu, .bool fi, .string da, .slice ad xs.length cap]) (.slice ad xs.length cap) true true xs.length i)) [(0, #[.slice adp ps.length capp, B no, .string ap, Z ti]), (1, #[B tu, .bool fi, .string da, .slice ad xs.length cap])] 2) a w') xs.length ?_ ?_
    · obtain ⟨u, Iu⟩ := I.scr (bodyL Tryz.f7) (scrF 64 snK) (snV (.agg #[.slice adp ps.length capp, B no, .string ap, Z ti]) (.agg #[B tu, .bool fi, .string da, .slice ad xs.length cap]) (.slice ad xs.length cap) true true xs.length 0) [(0, #[.slice adp ps.length capp, B no, .string ap, Z ti]), (1, #[B tu, .bool fi, .string da, .slice ad xs.length cap])] 2
      exact ⟨0, β3, u, by omega, Nat.zero_le _, Iu⟩
    rintro k a4 w4 ⟨i, β4, u, rfl, hi, I⟩
    refine wp_cfC (tm := fillF (scrF 64 snK) u 0 (snV (.agg #[.slice adp ps.length capp, B no, .string ap, Z ti]) (.agg #[B tu, .bool fi, .string da, .slice ad xs.length cap]) (.slice ad xs.length cap) true true xs.length i)) (rows := [(0, #[.slice adp ps.length capp, B no, .string ap, Z ti]), (1, #[B tu, .bool fi, .string da, .slice ad xs.length cap])]) (nx := 2) ?_
    rcases Nat.lt_or_ge i xs.length with hil | hil
    · obtain ⟨⟨sa, al⟩, h1⟩ : ∃ t, xs[i]? = some t := ⟨_, List.getElem?_eq_getElem hil⟩
      obtain ⟨ga, offa, cs, rfl, hlt, hca, av, rfl, ada, capa, rfl, hma⟩ := hm i _ h1
      simp only [] at hca hma
      have hld : ∀ w', Below w.heap.size w w' → (loadVar 38 ⟨ga, offa + i * 2, none⟩).run Tryz.prog w' = .ok (.agg #[.string sa, .slice ada al.length capa]) w' := fun w' hb => loadEx (hca.keep (hb.block ga hlt))
      by_cases hW : totS xs sa < W
      · have hTo : ∀ w', Below w.heap.size w w' → Calls Tryz.prog 12 #[.slice (some ⟨ga, offa, none⟩) xs.length cap, .string sa] w' fun e w'' => e = .returned (.tuple #[U (totS xs sa), .bool true]) ∧ Below w'.heap.size w' w'' := fun w' hb => by
          have := total_any (hx.below CE.loc hb) sa hok.1 hok.2
          unfold totV at this
          rwa [if_pos hW] at this
        generalize totS xs sa = tt at hTo
        refine goT (T := Below w.heap.size w) [bO .lss 3 (run_lssZ (x := i) (y := xs.length) (b := true) (by simp; omega)), iA 26 Tryz.underlying26 (sz := 2) (by kernel_rfl) (g := ga) (off := offa) (n := xs.length) (cap := cap) hil, ldA 38 hld, cA Tryz.func12 hTo, uO .not (p := .bool true) (v := .bool false) (by intros; rfl), bO .add 3 (run_addZ (x := i) (y := 1) (z := (i + 1 : Nat)) (by rw [wz (by omega) (by omega)]; omega))] (nonR w) (fun _ h => h) I fun β5 a5 w5 I hb5 => ?_
        obtain ⟨u', Iu⟩ := I.scr (bodyL Tryz.f7) (scrF 64 snK) (snV (.agg #[.slice adp ps.length capp, B no, .string ap, Z ti]) (.agg #[B tu, .bool fi, .string da, .slice (some ⟨ga, offa, none⟩) xs.length cap]) (.slice (some ⟨ga, offa, none⟩) xs.length cap) true true xs.length (i + 1)) [(0, #[.slice adp ps.length capp, B no, .string ap, Z ti]), (1, #[B tu, .bool fi, .string da, .slice (some ⟨ga, offa, none⟩) xs.length cap])] 2
        exact endL ⟨xs.length - (i + 1), by omega, i + 1, β5, u', rfl, hil, Iu⟩
      · exact absurd (hgoes _ (List.mem_of_getElem? h1) rfl) hW
    · obtain rfl : i = xs.length := by omega
      refine goQ [bO .lss 3 (run_lssZ (x := xs.length) (y := xs.length) (b := false) (by simp))] (nonR w) I fun β5 a5 w5 I hb5 => ?_
      refine endE 0 ?_
      refine goT (T := Below w.heap.size w) [cA Tryz.func11 hAw] (nonR w) (fun _ h => h) (I.exit _) fun β6 a6 w6 I hb6 => ?_
      exact outQ (v := .bool true) I ⟨rfl, I.hJ⟩
end Go.Proofs.YtomdiafkoeefpaaGreatDoor
