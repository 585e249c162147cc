/- The chapter's example; PayDoes: for all money, allocations and places. -/
import Derived.Test.YtabghfcjpaileaaPl
namespace Go.Proofs.Ytabghfcjpaileaa
open Go.RowKit Go.Sort
set_option linter.unusedVariables false
set_option maxRecDepth 100000
theorem flat_any {α : Type} {f : α → List Value} {sz : Nat} (hf : ∀ x, (f x).length = sz) : ∀ (l : List α), (l.map f).flatten.length = l.length * sz
  | [] => by simp
  | x :: l => by rw [List.map_cons, List.flatten_cons, List.length_append, flat_any hf l, hf, List.length_cons, Nat.succ_mul]; omega
theorem own_new {α : Type} (f : α → List Value) (e sz : Nat) (l : List α) (hf : ∀ x, (f x).length = sz) (hn : l.length ≤ 1000) {cur : Array Value} (hc : cur.toList = (l.map f).flatten) (w : World) : (w.alloc (.cells cur e)).ownsRow w.heap.size e sz (.slice (some ⟨w.heap.size, 0, none⟩) l.length l.length) (l.map f).length (l.map f).flatten := by
  have h1 := flat_any hf l
  refine ⟨by rw [h1, List.length_map], .inr ⟨w.heap.size, l.length, cur, by rw [List.length_map], Nat.le_refl _, heap_alloc_new w _, by rw [List.length_map]; exact Nat.le_refl _, by simp only [maxLen]; omega, by rw [← h1, ← hc]; simp, ?_⟩⟩
  rw [List.length_map, ← h1, hc, List.take_length]
theorem nw_al (l : List Al) (hl : ∀ x ∈ l, x.2.1 < W) (hn : l.length ≤ 1000) {cur : Array Value} (hc : cur.toList = (l.map al8).flatten) (w : World) : NW w [alF (.slice (some ⟨w.heap.size, 0, none⟩) l.length l.length) l] (w.alloc (.cells cur 42)) := by
  have h := own_list (C := C8) al8 (own_new al8 42 8 l (fun _ => rfl) hn hc w) fun x hx => ⟨rfl, rfl, hl x hx⟩
  have hz : (w.alloc (.cells cur 42)).heap.size = w.heap.size + 1 := by simp
  exact ⟨below_alloc w _, fun k => (Value.slice (some ⟨w.heap.size, 0, none⟩) l.length l.length).ownBlock = some k, fun k hk => by simp only [Value.ownBlock, Option.some.injEq] at hk; omega, fun f hf => by rw [List.mem_singleton.1 hf]; exact h⟩
theorem nw_nu (l : List Nat) (hl : ∀ x ∈ l, x < W) (hn : l.length ≤ 1000) {cur : Array Value} (hc : cur.toList = (l.map u4).flatten) (w : World) : NW w [nuF (.slice (some ⟨w.heap.size, 0, none⟩) l.length l.length) l] (w.alloc (.cells cur 24)) := by
  have h := own_list (C := C4) u4 (own_new u4 24 4 l (fun _ => rfl) hn hc w) fun x hx => ⟨rfl, rfl, hl x hx⟩
  have hz : (w.alloc (.cells cur 24)).heap.size = w.heap.size + 1 := by simp
  exact ⟨below_alloc w _, fun k => (Value.slice (some ⟨w.heap.size, 0, none⟩) l.length l.length).ownBlock = some k, fun k hk => by simp only [Value.ownBlock, Option.some.injEq] at hk; omega, fun f hf => by rw [List.mem_singleton.1 hf]; exact h⟩
theorem nw_in (l : List Int) (hn : l.length ≤ 1000) {cur : Array Value} (hc : cur.toList = (l.map fun i => [Z i]).flatten) (w : World) : NW w [inF (.slice (some ⟨w.heap.size, 0, none⟩) l.length l.length) l] (w.alloc (.cells cur 3)) := by
  have h := own_list (C := C1) (fun i => [Z i]) (own_new (fun i => [Z i]) 3 1 l (fun _ => rfl) hn hc w) fun x hx => ⟨rfl, rfl⟩
  have hz : (w.alloc (.cells cur 3)).heap.size = w.heap.size + 1 := by simp
  exact ⟨below_alloc w _, fun k => (Value.slice (some ⟨w.heap.size, 0, none⟩) l.length l.length).ownBlock = some k, fun k hk => by simp only [Value.ownBlock, Option.some.injEq] at hk; omega, fun f hf => by rw [List.mem_singleton.1 hf]; exact h⟩
abbrev a5 : Al := (⟨#[]⟩, 5, 0, ⟨#[]⟩, ⟨#[]⟩)
theorem bdU5 (w : World) : (Instr.build 24 (([0] : List Nat).zip [.int .u64 5]).toArray).run Try.prog w = .ok (U 5) w := by kernel_rfl
theorem bdU7 (w : World) : (Instr.build 24 (([0] : List Nat).zip [.int .u64 7]).toArray).run Try.prog w = .ok (U 7) w := by kernel_rfl
theorem bdU2 (w : World) : (Instr.build 24 (([0] : List Nat).zip [.int .u64 2]).toArray).run Try.prog w = .ok (U 2) w := by kernel_rfl
theorem bdA5 (w : World) : (Instr.build 42 (([1] : List Nat).zip [U 5]).toArray).run Try.prog w = .ok (alV a5) w := by kernel_rfl
theorem bs25_3 (w : World) : (Instr.buildSlice 25 3 #[(0, alV a5), (1, alV a5), (2, alV a5)]).run Try.prog w = .ok (.slice (some ⟨w.heap.size, 0, none⟩) 3 3) (w.alloc (.cells (([a5, a5, a5].map al8).flatten.toArray) 42)) := by kernel_rfl
theorem bs29_3 (x y z : Nat) (w : World) : (Instr.buildSlice 29 3 #[(0, U x), (1, U y), (2, U z)]).run Try.prog w = .ok (.slice (some ⟨w.heap.size, 0, none⟩) 3 3) (w.alloc (.cells (([x, y, z].map u4).flatten.toArray) 24)) := by kernel_rfl
theorem bs26_1 (x : Int) (w : World) : (Instr.buildSlice 26 1 #[(0, Z x)]).run Try.prog w = .ok (.slice (some ⟨w.heap.size, 0, none⟩) 1 1) (w.alloc (.cells (([x].map fun i => [Z i]).flatten.toArray) 3)) := by kernel_rfl
theorem ex_rf : rfE [a5, a5, a5] [1] = 0 := by decide
theorem ex_pd : pdL 7 [a5, a5, a5] [1] = [0, 2, 0] := by decide
theorem ex_cv : cvL 7 [a5, a5, a5] = [5, 2, 0] := by decide
set_option maxHeartbeats 4000000 in
theorem awake_any (w : World) : Calls Try.prog 8 #[] w fun e w' => e = .returned (.bool true) ∧ Below w.heap.size w w' := by
  have hT := fun (w' : World) (v vp : Value) (h1 : AlI w' v [a5, a5, a5]) (h2 : InI w' vp [1]) => transfer_ok (h := 7) h1 h2 (by decide) (by decide) ex_rf (by simp) (by decide)
  have hA := fun (w' : World) (v : Value) (h1 : AlI w' v [a5, a5, a5]) => afford_any (h := 7) h1 (by decide) (by decide)
  have e5 : 7 - (pdL 7 [a5, a5, a5] [1]).sum = 5 := by rw [ex_pd]; rfl
  rw [e5] at hT
  rw [ex_pd] at hT
  rw [ex_cv] at hA
  generalize rsL 7 [a5, a5, a5] [1] = rs at *
  refine inQ (J := GS w w w.heap.size noK (· < w.heap.size) [] []) (F := GF noK (· < w.heap.size) []) Try.func8 (GS.start w fun f hf => by (cases hf)) fun a I => ?_
  refine goQ [dO 24 [0] bdU5, dO 42 [1] bdA5, dO 24 [0] bdU5, dO 42 [1] bdA5, dO 24 [0] bdU5, dO 42 [1] bdA5] (GS.rsr _ _ _ _ _ _ _) I fun β1 a1 w1 I hb1 => ?_
  refine bslQ (ss := [(0, Sum.inl (alV a5)), (1, Sum.inl (alV a5)), (2, Sum.inl (alV a5))]) I (bs25_3 w1) ?_
  obtain ⟨K2, I⟩ := I.gs (nw_al [a5, a5, a5] (by decide) (by decide) rfl w1) (.slice (some ⟨w1.heap.size, 0, none⟩) 3 3)
  generalize w1.heap.size = g1 at *
  refine goQ [dO 24 [0] bdU7] (GS.rsr _ _ _ _ _ _ _) I fun β3 a3 w3 I hb3 => ?_
  refine bslQ (ss := [(0, Sum.inl (Z 1))]) I (bs26_1 1 w3) ?_
  obtain ⟨K4, I⟩ := I.gs (nw_in [1] (by decide) rfl w3) (.slice (some ⟨w3.heap.size, 0, none⟩) 1 1)
  have hT4 := hT _ _ _ (I.hJ.at 1 (f := alF (.slice (some ⟨g1, 0, none⟩) 3 3) [a5, a5, a5]) rfl) (I.hJ.at 0 (f := inF (.slice (some ⟨w3.heap.size, 0, none⟩) 1 1) [1]) rfl)
  generalize w3.heap.size = g3 at *
  refine mcall (f := 9) (ss := [Sum.inl (U 7), Sum.inl (.slice (some ⟨g1, 0, none⟩) 3 3), Sum.inl (.slice (some ⟨g3, 0, none⟩) 1 1)]) Try.func9 I (hT4.mono fun e w5 he => ?_)
  obtain ⟨v1, v2, rfl, hn⟩ := he
  obtain ⟨K5, I⟩ := I.gs hn (.tuple #[v1, v2, U 5, Z 0])
  refine goQ [dO 24 [0] bdU7] (GS.rsr _ _ _ _ _ _ _) I fun β6 a6 w6 I hb6 => ?_
  refine mcall (f := 12) (ss := [Sum.inl (U 7), Sum.inl (.slice (some ⟨g1, 0, none⟩) 3 3)]) Try.func12 I ((hA _ _ (I.hJ.at 3 (f := alF (.slice (some ⟨g1, 0, none⟩) 3 3) [a5, a5, a5]) rfl)).mono fun e w7 he => ?_)
  obtain ⟨v3, rfl, hn⟩ := he
  obtain ⟨K7, I⟩ := I.gs hn v3
  refine goQ [dO 24 [0] bdU5, dO 24 [0] bdU2, dO 24 [] bd_Uz] (GS.rsr _ _ _ _ _ _ _) I fun β8 a8 w8 I hb8 => ?_
  refine bslQ (ss := [(0, Sum.inl (U 5)), (1, Sum.inl (U 2)), (2, Sum.inl (U 0))]) I (bs29_3 5 2 0 w8) ?_
  obtain ⟨K9, I⟩ := I.gs (nw_nu [5, 2, 0] (by decide) (by decide) rfl w8) (.slice (some ⟨w8.heap.size, 0, none⟩) 3 3)
  generalize w8.heap.size = g8 at *
  have R9 := GS.rsr w w w.heap.size noK K9 ([nuF (.slice (some ⟨g8, 0, none⟩) 3 3) [5, 2, 0]] ++ ([nuF v3 [5, 2, 0]] ++ ([alF v1 rs, nuF v2 [0, 2, 0]] ++ ([inF (.slice (some ⟨g3, 0, none⟩) 1 1) [1]] ++ ([alF (.slice (some ⟨g1, 0, none⟩) 3 3) [a5, a5, a5]] ++ []))))) []
  have hn9 := fun (w' : World) (hw : GS w w w.heap.size noK K9 ([nuF (.slice (some ⟨g8, 0, none⟩) 3 3) [5, 2, 0]] ++ ([nuF v3 [5, 2, 0]] ++ ([alF v1 rs, nuF v2 [0, 2, 0]] ++ ([inF (.slice (some ⟨g3, 0, none⟩) 1 1) [1]] ++ ([alF (.slice (some ⟨g1, 0, none⟩) 3 3) [a5, a5, a5]] ++ []))))) [] w') => nums_any (hw.at 1 (f := nuF v3 [5, 2, 0]) rfl) (hw.at 0 (f := nuF (.slice (some ⟨g8, 0, none⟩) 3 3) [5, 2, 0]) rfl) (by decide)
  rw [decide_eq_true rfl] at hn9
  refine goT [cA Try.func11 hn9, bO .eql 30 (run_eqE (x := 0) (y := 0) (b := true) rfl), dO 24 [] bd_Uz, dO 24 [0] bdU2, dO 24 [] bd_Uz] R9 (fun _ h => h) I fun β10 a10 w10 I hb10 => ?_
  refine bslQ (ss := [(0, Sum.inl (U 0)), (1, Sum.inl (U 2)), (2, Sum.inl (U 0))]) I (bs29_3 0 2 0 w10) ?_
  obtain ⟨K11, I⟩ := I.gs (nw_nu [0, 2, 0] (by decide) (by decide) rfl w10) (.slice (some ⟨w10.heap.size, 0, none⟩) 3 3)
  generalize w10.heap.size = g10 at *
  have hn11 := fun (w' : World) (hw : GS w w w.heap.size noK K11 ([nuF (.slice (some ⟨g10, 0, none⟩) 3 3) [0, 2, 0]] ++ ([nuF (.slice (some ⟨g8, 0, none⟩) 3 3) [5, 2, 0]] ++ ([nuF v3 [5, 2, 0]] ++ ([alF v1 rs, nuF v2 [0, 2, 0]] ++ ([inF (.slice (some ⟨g3, 0, none⟩) 1 1) [1]] ++ ([alF (.slice (some ⟨g1, 0, none⟩) 3 3) [a5, a5, a5]] ++ [])))))) [] w') => nums_any (hw.at 4 (f := nuF v2 [0, 2, 0]) rfl) (hw.at 0 (f := nuF (.slice (some ⟨g10, 0, none⟩) 3 3) [0, 2, 0]) rfl) (by decide)
  rw [decide_eq_true rfl] at hn11
  refine goT [cA Try.func11 hn11, dO 24 [0] bdU5, bO .eql 24 (eqU_run (n := 5) (m := 5) (by decide) (by decide) (b := true) rfl)] (GS.rsr _ _ _ _ _ _ _) (fun _ h => h) I fun β12 a12 w12 I hb12 => ?_
  exact outQ (v := .bool true) I ⟨rfl, I.hJ.bw⟩
set_option maxHeartbeats 8000000 in
theorem does_walk {w : World} {v vp : Value} {l : List Al} {p : List Int} {h : Nat} (hv : AlI w v l) (hp : InI w vp p) (hh : h < W) : Calls Try.prog 3 #[U h, v, vp] w fun e w' => e = .returned (.bool true) ∧ Below w.heap.size w w' := by
  have haw := awake_any
  obtain ⟨ad, cap, hv0⟩ := hv.slice
  obtain ⟨adp, capp, hp0⟩ := hp.slice
  subst hv0 hp0
  have hfw := fun (w' : World) (hw : GS w w w.heap.size noK (· < w.heap.size) [alF (.slice ad l.length cap) l, inF (.slice adp p.length capp) p] [] w') => few_any (hw.at 0 (f := alF (.slice ad l.length cap) l) rfl) (hw.at 1 (f := inF (.slice adp p.length capp) p) rfl)
  refine inQ (J := GS w w w.heap.size noK (· < w.heap.size) [alF (.slice ad l.length cap) l, inF (.slice adp p.length capp) p] []) (F := GF noK (· < w.heap.size) []) Try.func3 (GS.start w fun f hf => by
    rcases List.mem_cons.1 hf with rfl | hf
    · exact hv
    · rw [List.mem_singleton.1 hf]; exact hp) fun a I => ?_
  by_cases q1 : l.length ≤ 60 ∧ p.length ≤ 100
  · rw [decide_eq_true q1] at hfw
    obtain ⟨q1, q2⟩ := q1
    refine goT [cA Try.func7 hfw, ntO true] (GS.rsr _ _ _ _ _ _ _) (fun _ h => h) I fun β1 a1 w1 I hb1 => ?_
    by_cases he : rfE l p = 0
    · have hrs : p.Pairwise (· < ·) := wh_rise (n := l.length) (by
        cases hq : whB l.length p with
        | true => rfl
        | false => unfold rfE at he; rw [if_pos hq] at he; cases he)
      refine mcall (f := 9) (ss := [Sum.inl (U h), Sum.inl (.slice ad l.length cap), Sum.inl (.slice adp p.length capp)]) Try.func9 I ((transfer_ok (I.hJ.at 0 (f := alF (.slice ad l.length cap) l) rfl) (I.hJ.at 1 (f := inF (.slice adp p.length capp) p) rfl) (by omega) (by omega) he hrs hh).mono fun e w2 hr => ?_)
      obtain ⟨v1, v2, rfl, hn⟩ := hr
      obtain ⟨K2, I⟩ := I.gs hn (.tuple #[v1, v2, U (h - (pdL h l p).sum), Z 0])
      refine goQ [] (GS.rsr _ _ _ _ _ _ _) I fun β3 a3 w3 I hb3 => ?_
      refine mcall (f := 10) (ss := [Sum.inl (U h), Sum.inl (.slice ad l.length cap), Sum.inl (.slice adp p.length capp)]) Try.func10 I ((rtransfer_any (I.hJ.at 2 (f := alF (.slice ad l.length cap) l) rfl) (I.hJ.at 3 (f := inF (.slice adp p.length capp) p) rfl) (by omega) (by omega) hh).mono fun e w4 hr => ?_)
      rcases hr with ⟨hne, _⟩ | ⟨_, v3, v4, rfl, hn⟩
      · exact absurd he hne
      obtain ⟨K4, I⟩ := I.gs hn (.tuple #[v3, v4, U (h - (pdL h l p).sum), Z 0])
      have hsm : h - (pdL h l p).sum < W := Nat.lt_of_le_of_lt (Nat.sub_le _ _) hh
      have hrl := rsL_len h l p
      have hpl := pdL_len h l p
      generalize h - (pdL h l p).sum = hz at *
      generalize rsL h l p = rs at *
      generalize pdL h l p = pd at *
      refine goQ [] (GS.rsr _ _ _ _ _ _ _) I fun β5 a5 w5 I hb5 => ?_
      have hJ5 := I.hJ
      have hal5 := hJ5.at 4 (f := alF (.slice ad l.length cap) l) rfl
      have hsz : a5.tmps.size = 68 := by rw [I.fr]; kernel_rfl
      have hS := fun (w' : World) (hw : GS w w w.heap.size noK K4 ([alF v3 rs, nuF v4 pd] ++ ([alF v1 rs, nuF v2 pd] ++ [alF (.slice ad l.length cap) l, inF (.slice adp p.length capp) p])) [] w') => same_any (hw.at 2 (f := alF v1 rs) rfl) (hw.at 0 (f := alF v3 rs) rfl) (by omega)
      have hN := fun (w' : World) (hw : GS w w w.heap.size noK K4 ([alF v3 rs, nuF v4 pd] ++ ([alF v1 rs, nuF v2 pd] ++ [alF (.slice ad l.length cap) l, inF (.slice adp p.length capp) p])) [] w') => nums_any (hw.at 3 (f := nuF v2 pd) rfl) (hw.at 1 (f := nuF v4 pd) rfl) (by omega)
      rw [decide_eq_true rfl] at hS hN
      refine dwS (T := GS w w w.heap.size noK K4 ([alF v3 rs, nuF v4 pd] ++ ([alF v1 rs, nuF v2 pd] ++ [alF (.slice ad l.length cap) l, inF (.slice adp p.length capp) p])) []) [(2, none), (5, none), (6, some (.bool true))] [cA Try.func14 hS, cA Try.func11 hN, bO .eql 24 (eqU_run (n := hz) (m := hz) hsm hsm (b := true) (decide_eq_true rfl)), bO .eql 3 (run_eqlZ (x := 0) (y := 0) (b := true) (decide_eq_true rfl)), kC Try.func8 haw]
        (fun j v w' => (j = 2 ∨ j = 5) → (nuF v (cvL h l)).p (· < w'.heap.size) w') (fun j v w' w'' hj hb e => SlI.below C4.loc (hj e) hb) (GS.rsr _ _ _ _ _ _ _) (fun _ h => h) I ?_ ?_
      · intro q hq o ho listed vs a' w' hF hrd hbw hV hev
        simp only [List.mem_cons, List.not_mem_nil, or_false] at hq
        have up : ∀ {w1 w2 : World} {u : Value}, NW w1 [nuF u (cvL h l)] w2 → (nuF u (cvL h l)).p (· < w2.heap.size) w2 := fun hn => by
          obtain ⟨_, K1, k1, k2⟩ := hn
          exact (nuF _ (cvL h l)).loc _ _ _ _ (fun k hk => ⟨(k1 k hk).2, rfl⟩) (k2 _ (by simp))
        rcases hq with rfl | rfl | rfl
        · obtain ⟨h1, h2, h3⟩ := opD_get (x := .call ⟨.value (.func 12), #[.tmp 38, .tmp 39], #[24, 25]⟩) (d := some 40) ho (by kernel_rfl)
          have e1 : a'.eval (.tmp 38) = U h := hev (.tmp 38) (Sum.inl (U h)) (by kernel_rfl)
          have e2 : a'.eval (.tmp 39) = (.slice ad l.length cap) := hev (.tmp 39) (Sum.inl (.slice ad l.length cap)) (by kernel_rfl)
          refine wpG_plain h3 (wp_callG (f := 12) (args := #[U h, (.slice ad l.length cap)]) (by rw [call_run h1 Try.func12 (cs := #[]) rfl]; simp only [List.map_toArray, List.map_cons, List.map_nil, e1, e2, Array.append_empty]) ((afford_any (SlI.below C8.loc hal5 hbw) (by omega) hh).mono fun e w6 he => ?_))
          obtain ⟨v', rfl, hn⟩ := he
          exact ⟨_, rfl, _, rfl, fun u hu => (by cases hu), fun _ => up hn, hn.1⟩
        · obtain ⟨h1, h2, h3⟩ := opD_get (x := .call ⟨.value (.func 13), #[.tmp 41, .tmp 42], #[24, 25]⟩) (d := some 43) ho (by kernel_rfl)
          have e1 : a'.eval (.tmp 41) = U h := hev (.tmp 41) (Sum.inl (U h)) (by kernel_rfl)
          have e2 : a'.eval (.tmp 42) = (.slice ad l.length cap) := hev (.tmp 42) (Sum.inl (.slice ad l.length cap)) (by kernel_rfl)
          refine wpG_plain h3 (wp_callG (f := 13) (args := #[U h, (.slice ad l.length cap)]) (by rw [call_run h1 Try.func13 (cs := #[]) rfl]; simp only [List.map_toArray, List.map_cons, List.map_nil, e1, e2, Array.append_empty]) ((rafford_any (SlI.below C8.loc hal5 hbw) (by omega) hh).mono fun e w6 he => ?_))
          obtain ⟨v', rfl, hn⟩ := he
          exact ⟨_, rfl, _, rfl, fun u hu => (by cases hu), fun _ => up hn, hn.1⟩
        · obtain ⟨h1, h2, h3⟩ := opD_get (x := .call ⟨.value (.func 11), #[.tmp 40, .tmp 43], #[29, 29]⟩) (d := some 44) ho (by kernel_rfl)
          have d2 := waits_done (ops := opsD _) (i := 6) (j := 2) (by kernel_rfl) hrd
          have d5 := waits_done (ops := opsD _) (i := 6) (j := 5) (by kernel_rfl) hrd
          have e1 : a'.eval (.tmp 40) = vs 2 := hF.new (i := 2) (by kernel_rfl) (by omega) d2
          have e2 : a'.eval (.tmp 43) = vs 5 := hF.new (i := 5) (by kernel_rfl) (by omega) d5
          have f2 : (nuF (vs 2) (cvL h l)).p (· < w'.heap.size) w' := hV (2, none) (by simp) d2 (.inl rfl)
          have f5 : (nuF (vs 5) (cvL h l)).p (· < w'.heap.size) w' := hV (5, none) (by simp) d5 (.inr rfl)
          have hc := nums_any f2 f5 (by rw [cvL_len]; omega)
          rw [decide_eq_true rfl] at hc
          refine wpG_plain h3 (wp_callG (f := 11) (args := #[vs 2, vs 5]) (by rw [call_run h1 Try.func11 (cs := #[]) rfl]; simp only [List.map_toArray, List.map_cons, List.map_nil, e1, e2, Array.append_empty]) (hc.mono fun e w6 he => ?_))
          obtain ⟨rfl, hb6⟩ := he
          exact ⟨_, rfl, _, rfl, fun u hu => (by cases hu; rfl), fun e => (by rcases e with e | e <;> cases e), hb6⟩
      · intro vs a6 w6 hV I
        refine goQ [] (GS.rsr _ _ _ _ _ _ _) I fun β7 a7 w7 I hb7 => ?_
        exact outQ (v := .bool true) I ⟨rfl, I.hJ.bw⟩
    · refine mcall (f := 9) (ss := [Sum.inl (U h), Sum.inl (.slice ad l.length cap), Sum.inl (.slice adp p.length capp)]) Try.func9 I ((transfer_err (h := h) (I.hJ.at 0 (f := alF (.slice ad l.length cap) l) rfl) (I.hJ.at 1 (f := inF (.slice adp p.length capp) p) rfl) (by omega) (by omega) he).mono fun e w2 hr => ?_)
      obtain ⟨v1, rfl, hn⟩ := hr
      obtain ⟨K2, I⟩ := I.gs hn (.tuple #[v1, .slice none 0 0, U h, Z (rfE l p)])
      refine goQ [] (GS.rsr _ _ _ _ _ _ _) I fun β3 a3 w3 I hb3 => ?_
      refine mcall (f := 10) (ss := [Sum.inl (U h), Sum.inl (.slice ad l.length cap), Sum.inl (.slice adp p.length capp)]) Try.func10 I ((rtransfer_any (I.hJ.at 1 (f := alF (.slice ad l.length cap) l) rfl) (I.hJ.at 2 (f := inF (.slice adp p.length capp) p) rfl) (by omega) (by omega) hh).mono fun e w4 hr => ?_)
      rcases Or.symm hr with ⟨hne, _⟩ | ⟨_, rfl, hb4⟩
      · exact absurd hne he
      have I := I.moved (Grow.of_below hb4) (I.hJ.below hb4) (fun _ _ h => h) (.tuple #[(.slice ad l.length cap), .slice none 0 0, U h, Z (rfE l p)])
      generalize rfE l p = er at *
      refine goQ [] (GS.rsr _ _ _ _ _ _ _) I fun β5 a5 w5 I hb5 => ?_
      have hJ5 := I.hJ
      have hal5 := hJ5.at 1 (f := alF (.slice ad l.length cap) l) rfl
      have hsz : a5.tmps.size = 68 := by rw [I.fr]; kernel_rfl
      have hS := fun (w' : World) (hw : GS w w w.heap.size noK K2 ([alF v1 l] ++ [alF (.slice ad l.length cap) l, inF (.slice adp p.length capp) p]) [] w') => same_any (hw.at 0 (f := alF v1 l) rfl) (hw.at 1 (f := alF (.slice ad l.length cap) l) rfl) (by omega)
      have hN := fun (w' : World) (hw : GS w w w.heap.size noK K2 ([alF v1 l] ++ [alF (.slice ad l.length cap) l, inF (.slice adp p.length capp) p]) [] w') => nums_any (l := []) (m := []) (SlI.nil (· < w'.heap.size) w') (SlI.nil (· < w'.heap.size) w') (by decide)
      rw [decide_eq_true rfl] at hS hN
      refine dwS (T := GS w w w.heap.size noK K2 ([alF v1 l] ++ [alF (.slice ad l.length cap) l, inF (.slice adp p.length capp) p]) []) [(2, none), (5, none), (6, some (.bool true))] [cA Try.func14 hS, cA Try.func11 hN, bO .eql 24 (eqU_run (n := h) (m := h) hh hh (b := true) (decide_eq_true rfl)), bO .eql 3 (run_eqlZ (x := er) (y := er) (b := true) (decide_eq_true rfl)), kC Try.func8 haw]
        (fun j v w' => (j = 2 ∨ j = 5) → (nuF v (cvL h l)).p (· < w'.heap.size) w') (fun j v w' w'' hj hb e => SlI.below C4.loc (hj e) hb) (GS.rsr _ _ _ _ _ _ _) (fun _ h => h) I ?_ ?_
      · intro q hq o ho listed vs a' w' hF hrd hbw hV hev
        simp only [List.mem_cons, List.not_mem_nil, or_false] at hq
        have up : ∀ {w1 w2 : World} {u : Value}, NW w1 [nuF u (cvL h l)] w2 → (nuF u (cvL h l)).p (· < w2.heap.size) w2 := fun hn => by
          obtain ⟨_, K1, k1, k2⟩ := hn
          exact (nuF _ (cvL h l)).loc _ _ _ _ (fun k hk => ⟨(k1 k hk).2, rfl⟩) (k2 _ (by simp))
        rcases hq with rfl | rfl | rfl
        · obtain ⟨h1, h2, h3⟩ := opD_get (x := .call ⟨.value (.func 12), #[.tmp 38, .tmp 39], #[24, 25]⟩) (d := some 40) ho (by kernel_rfl)
          have e1 : a'.eval (.tmp 38) = U h := hev (.tmp 38) (Sum.inl (U h)) (by kernel_rfl)
          have e2 : a'.eval (.tmp 39) = (.slice ad l.length cap) := hev (.tmp 39) (Sum.inl (.slice ad l.length cap)) (by kernel_rfl)
          refine wpG_plain h3 (wp_callG (f := 12) (args := #[U h, (.slice ad l.length cap)]) (by rw [call_run h1 Try.func12 (cs := #[]) rfl]; simp only [List.map_toArray, List.map_cons, List.map_nil, e1, e2, Array.append_empty]) ((afford_any (SlI.below C8.loc hal5 hbw) (by omega) hh).mono fun e w6 he => ?_))
          obtain ⟨v', rfl, hn⟩ := he
          exact ⟨_, rfl, _, rfl, fun u hu => (by cases hu), fun _ => up hn, hn.1⟩
        · obtain ⟨h1, h2, h3⟩ := opD_get (x := .call ⟨.value (.func 13), #[.tmp 41, .tmp 42], #[24, 25]⟩) (d := some 43) ho (by kernel_rfl)
          have e1 : a'.eval (.tmp 41) = U h := hev (.tmp 41) (Sum.inl (U h)) (by kernel_rfl)
          have e2 : a'.eval (.tmp 42) = (.slice ad l.length cap) := hev (.tmp 42) (Sum.inl (.slice ad l.length cap)) (by kernel_rfl)
          refine wpG_plain h3 (wp_callG (f := 13) (args := #[U h, (.slice ad l.length cap)]) (by rw [call_run h1 Try.func13 (cs := #[]) rfl]; simp only [List.map_toArray, List.map_cons, List.map_nil, e1, e2, Array.append_empty]) ((rafford_any (SlI.below C8.loc hal5 hbw) (by omega) hh).mono fun e w6 he => ?_))
          obtain ⟨v', rfl, hn⟩ := he
          exact ⟨_, rfl, _, rfl, fun u hu => (by cases hu), fun _ => up hn, hn.1⟩
        · obtain ⟨h1, h2, h3⟩ := opD_get (x := .call ⟨.value (.func 11), #[.tmp 40, .tmp 43], #[29, 29]⟩) (d := some 44) ho (by kernel_rfl)
          have d2 := waits_done (ops := opsD _) (i := 6) (j := 2) (by kernel_rfl) hrd
          have d5 := waits_done (ops := opsD _) (i := 6) (j := 5) (by kernel_rfl) hrd
          have e1 : a'.eval (.tmp 40) = vs 2 := hF.new (i := 2) (by kernel_rfl) (by omega) d2
          have e2 : a'.eval (.tmp 43) = vs 5 := hF.new (i := 5) (by kernel_rfl) (by omega) d5
          have f2 : (nuF (vs 2) (cvL h l)).p (· < w'.heap.size) w' := hV (2, none) (by simp) d2 (.inl rfl)
          have f5 : (nuF (vs 5) (cvL h l)).p (· < w'.heap.size) w' := hV (5, none) (by simp) d5 (.inr rfl)
          have hc := nums_any f2 f5 (by rw [cvL_len]; omega)
          rw [decide_eq_true rfl] at hc
          refine wpG_plain h3 (wp_callG (f := 11) (args := #[vs 2, vs 5]) (by rw [call_run h1 Try.func11 (cs := #[]) rfl]; simp only [List.map_toArray, List.map_cons, List.map_nil, e1, e2, Array.append_empty]) (hc.mono fun e w6 he => ?_))
          obtain ⟨rfl, hb6⟩ := he
          exact ⟨_, rfl, _, rfl, fun u hu => (by cases hu; rfl), fun e => (by rcases e with e | e <;> cases e), hb6⟩
      · intro vs a6 w6 hV I
        refine goQ [] (GS.rsr _ _ _ _ _ _ _) I fun β7 a7 w7 I hb7 => ?_
        exact outQ (v := .bool true) I ⟨rfl, I.hJ.bw⟩
  · rw [decide_eq_false q1] at hfw
    refine goT [cA Try.func7 hfw, ntO false, kC Try.func8 haw] (GS.rsr _ _ _ _ _ _ _) (fun _ h => h) I fun β1 a1 w1 I hb1 => ?_
    exact outQ (v := .bool true) I ⟨rfl, I.hJ.bw⟩
end Go.Proofs.Ytabghfcjpaileaa
