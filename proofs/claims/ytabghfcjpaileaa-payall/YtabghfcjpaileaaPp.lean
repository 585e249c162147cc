/- PayAll: for all allocations and money. -/
import Derived.Test.YtabghfcjpaileaaPm
namespace Go.Proofs.Ytabghfcjpaileaa
open Go.RowKit Go.Sort
set_option linter.unusedVariables false
set_option maxRecDepth 100000
theorem addOk {f : Nat} {n m : Nat} (hA : ∀ n m : Nat, n < W → m < W → ∀ w, Calls Try.prog f #[U n, U m] w fun e w' => e = .returned (.tuple #[U (addW n m), .bool (ovW n m)]) ∧ Below w.heap.size w w') (h1 : n < W) (h2 : m < W) (h : n + m < W) (w : World) : Calls Try.prog f #[U n, U m] w fun e w' => e = .returned (.tuple #[U (n + m), .bool false]) ∧ Below w.heap.size w w' := by
  have := hA n m h1 h2 w
  rwa [show addW n m = n + m from Nat.mod_eq_of_lt h, show ovW n m = false from decide_eq_false (by omega)] at this
theorem addNo {f : Nat} {n m : Nat} (hA : ∀ n m : Nat, n < W → m < W → ∀ w, Calls Try.prog f #[U n, U m] w fun e w' => e = .returned (.tuple #[U (addW n m), .bool (ovW n m)]) ∧ Below w.heap.size w w') (h1 : n < W) (h2 : m < W) (h : W ≤ n + m) (w : World) : Calls Try.prog f #[U n, U m] w fun e w' => e = .returned (.tuple #[U (addW n m), .bool true]) ∧ Below w.heap.size w w' := by
  have := hA n m h1 h2 w
  rwa [show ovW n m = true from decide_eq_true h] at this
theorem rf_nil (l : List Al) : rfE l [] = 0 := rfl
theorem nm_nil (k : Int) : nmB [] k = true := by simp [nmB]
theorem smA_le (l : List Al) (i : Nat) : smA (l.take i) ≤ smA l := sum_take_le _ l i
theorem pd_full {h : Nat} {l : List Al} (hk : ∀ x ∈ l, x.2.2.1 = 0) (hs : smA l ≤ h) {i : Nat} {x : Al} (hx : l[i]? = some x) : pdN h l [] i x = x.2.1 := by
  unfold pdN
  rw [if_pos ⟨hk x (List.mem_of_getElem? hx), nm_nil _⟩]
  unfold shN lfN
  have h1 := smA_take hx
  have h2 := smA_le l (i + 1)
  omega
theorem pd_map {h : Nat} {l : List Al} (hk : ∀ x ∈ l, x.2.2.1 = 0) (hs : smA l ≤ h) : pdL h l [] = l.map (·.2.1) := by
  apply List.ext_getElem?
  intro i
  cases hx : l[i]? with
  | none => rw [List.getElem?_map, hx, List.getElem?_eq_none (by rw [pdL_len]; exact List.getElem?_eq_none_iff.1 hx)]; rfl
  | some x => rw [pdL_get h [] hx, List.getElem?_map, hx, pd_full hk hs hx]; rfl
theorem rs_map {h : Nat} {l : List Al} (hk : ∀ x ∈ l, x.2.2.1 = 0) (hs : smA l ≤ h) : rsL h l [] = l.map fun x => rsX x x.2.1 := by
  apply List.ext_getElem?
  intro i
  cases hx : l[i]? with
  | none => rw [List.getElem?_map, hx, List.getElem?_eq_none (by rw [rsL_len]; exact List.getElem?_eq_none_iff.1 hx)]; rfl
  | some x => rw [rsL_get h [] hx, List.getElem?_map, hx, pd_full hk hs hx]; rfl
theorem pd_none {h : Nat} {l : List Al} (hz : ∀ x ∈ l, x.2.1 = 0) : ∀ n ∈ pdL h l [], n = 0 := fun n hn => by
  obtain ⟨i, hi⟩ := List.mem_iff_getElem?.1 hn
  have hil := (List.getElem?_eq_some_iff.1 hi).1
  rw [pdL_len] at hil
  obtain ⟨y, hy⟩ : ∃ t, l[i]? = some t := ⟨_, List.getElem?_eq_getElem hil⟩
  rw [pdL_get h [] hy] at hi
  cases hi
  have h1 := pdN_le h l [] i y
  have h2 := (shN_le h l i y).2
  have h3 := hz y (List.mem_of_getElem? hy)
  omega
theorem sum_none : ∀ {l : List Nat}, (∀ n ∈ l, n = 0) → l.sum = 0
  | [], _ => rfl
  | n :: l, h => by
    rw [List.sum_cons, h n List.mem_cons_self, sum_none fun m hm => h m (List.mem_cons_of_mem _ hm)]
abbrev w0K : List Nat := [0, 3, 4, 5, 25, 26, 27]
abbrev w0V (v : Value) (n i : Nat) : Vs := frm 141 [(0, Sum.inl v), (3, Sum.inr (0, 0)), (4, Sum.inl (.bool false)), (5, Sum.inr (1, 0)), (25, Sum.inl v), (26, Sum.inl (Z n)), (27, Sum.inl (Z i))]
abbrev w1K : List Nat := [0, 3, 4, 9, 10, 11, 76, 77]
abbrev w1V (v v1 v2 : Value) (n i : Nat) : Vs := frm 141 [(0, Sum.inl v), (3, Sum.inr (0, 0)), (4, Sum.inl (.bool false)), (9, Sum.inl v1), (10, Sum.inl v2), (11, Sum.inr (2, 0)), (76, Sum.inl (Z n)), (77, Sum.inl (Z i))]
abbrev w2K : List Nat := [4, 11, 16, 17, 121, 122, 123]
abbrev w2V (v : Value) (n i : Nat) : Vs := frm 141 [(4, Sum.inl (.bool false)), (11, Sum.inr (2, 0)), (16, Sum.inr (3, 0)), (17, Sum.inl (Z 0)), (121, Sum.inl v), (122, Sum.inl (Z n)), (123, Sum.inl (Z i))]
set_option maxHeartbeats 8000000 in
theorem all_walk {w : World} {v : Value} {l : List Al} {m : Nat} (hv : AlI w v l) (hm : m < W) : Calls Try.prog 6 #[v, U m] w fun e w' => e = .returned (.bool true) ∧ Below w.heap.size w w' := by
  have haw := awake_any
  have hlW : ∀ x ∈ l, x.2.1 < W := fun x hx => ali_lt hv hx
  obtain ⟨ad, cap, rfl, hml⟩ := hv
  have hv : AlI w (.slice ad l.length cap) l := ⟨ad, cap, rfl, hml⟩
  have hfw := fun (w' : World) (hw : GS w w w.heap.size noK (· < w.heap.size) ([alF (.slice ad l.length cap) l]) [] w') => few_any (v2 := .slice none 0 0) (p := []) (hw.at 0 (f := alF (.slice ad l.length cap) l) rfl) (SlI.nil _ _)
  refine inQ (J := GS w w w.heap.size noK (· < w.heap.size) ([alF (.slice ad l.length cap) l]) []) (F := GF noK (· < w.heap.size) []) Try.func6 (GS.start w fun f hf => by rw [List.mem_singleton.1 hf]; exact hv) fun a I => ?_
  have hR := GS.rsr w w w.heap.size noK (· < w.heap.size) ([alF (.slice ad l.length cap) l]) []
  by_cases q1 : l.length ≤ 60
  · rw [decide_eq_true (show l.length ≤ 60 ∧ ([] : List Int).length ≤ 100 from ⟨q1, by decide⟩)] at hfw
    refine goT [cA Try.func7 hfw, ntO true, lnA ad l.length cap] hR (fun _ h => h) I fun β1 a1 w1 I hb1 => ?_
    let St : Nat → Act → World → Prop := fun k a w' => ∃ (i : Nat) (β : Nat → Nat) (u : Nat → Value), k = l.length - i ∧ i ≤ l.length ∧ m + smA (l.take i) < W ∧ (∀ j x, j < i → l[j]? = some x → x.2.2.1 = 0) ∧
      SI (GS w w w.heap.size noK (· < w.heap.size) ([alF (.slice ad l.length cap) l]) []) (GF noK (· < w.heap.size) []) [] β (cfC (bodyLk Try.f6 0) (fillF (scrF 141 w0K) u 0 (w0V (.slice ad l.length cap) l.length i)) [(0, rU m), (1, rU (m + smA (l.take i)))] 2) a w'
    refine lpM (bodyLk Try.f6 0) St l.length ?_ ?_
    · obtain ⟨u, Iu⟩ := I.scr (bodyLk Try.f6 0) (scrF 141 w0K) (w0V (.slice ad l.length cap) l.length 0) [(0, rU m), (1, rU m)] 2
      exact ⟨0, β1, u, by omega, Nat.zero_le _, by simpa [smA] using hm, fun j x h => absurd h (Nat.not_lt_zero j), by rw [show m + smA (l.take 0) = m by simp [smA]]; exact Iu⟩
    rintro k a3 w3 ⟨i, β3, u, rfl, hi, hW, hk0, I⟩
    obtain ⟨S, hS⟩ : ∃ z, m + smA (l.take i) = z := ⟨_, rfl⟩
    rw [hS] at I hW
    refine wp_cfC (tm := fillF (scrF 141 w0K) u 0 (w0V (.slice ad l.length cap) l.length i)) (rows := [(0, rU m), (1, rU S)]) (nx := 2) ?_
    rcases Nat.lt_or_ge i l.length with hil | hil
    · obtain ⟨x, hx⟩ : ∃ t, l[i]? = some t := ⟨_, List.getElem?_eq_getElem hil⟩
      obtain ⟨g, off, cs, rfl, hlt, hca, rfl, hxl⟩ := hml i _ hx
      have hld : ∀ w', GS w w w.heap.size noK (· < w.heap.size) ([alF (.slice (some ⟨g, off, none⟩) l.length cap) l]) [] w' → (loadVar 42 ⟨g, off + i * 8, none⟩).run Try.prog w' = .ok (alV x) w' := fun w' hw => loadAl (hca.keep (hw.bw.block g hlt))
      have hst := smA_take hx
      have hnext : x.2.2.1 = 0 → ∀ j y, j < i + 1 → l[j]? = some y → y.2.2.1 = 0 := fun hz j y hj hy => by
        rcases Nat.lt_or_ge j i with hji | hji
        · exact hk0 j y hji hy
        · obtain rfl : j = i := by omega
          rw [hx] at hy; cases hy; exact hz
      obtain ⟨d, am, kd, le, ri⟩ := x
      unfold alV al8 at hld
      simp only [] at hld hst hxl hnext
      rcases Nat.lt_or_ge (S + am) W with hov | hov
      · have hA := addOk radd_any hW hxl hov
        obtain ⟨S2, hS2⟩ : ∃ z, S + am = z := ⟨_, rfl⟩
        rw [hS2] at hA hov
        by_cases hk : kd = 0
        · refine goT [lT i l.length (by omega), ixA g off l.length cap i hil, ldA 42 hld, kC Try.func15 hA, bO .neq 3 (run_neqZ (x := kd) (y := 0) (b := false) (decide_eq_false (not_not_intro hk))), p1 i (by omega)] hR (fun _ h => h) I fun β4 a4 w4 I hb4 => ?_
          obtain ⟨u', Iu⟩ := I.scr (bodyLk Try.f6 0) (scrF 141 w0K) (w0V (.slice (some ⟨g, off, none⟩) l.length cap) l.length (i + 1)) [(0, rU m), (1, rU S2)] 2
          have e : m + smA (l.take (i + 1)) = S2 := by omega
          exact endL ⟨l.length - (i + 1), by omega, i + 1, β4, u', rfl, hil, by rw [e]; exact hov, hnext hk, by rw [e]; exact Iu⟩
        · refine goT [lT i l.length (by omega), ixA g off l.length cap i hil, ldA 42 hld, kC Try.func15 hA, bO .neq 3 (run_neqZ (x := kd) (y := 0) (b := true) (decide_eq_true hk)), kC Try.func8 haw] hR (fun _ h => h) I fun β4 a4 w4 I hb4 => ?_
          exact endR (retV (v := .bool true) I ⟨rfl, I.hJ.bw⟩)
      · have hA := addNo radd_any hW hxl hov
        generalize addW S am = S2 at hA
        refine goT [lT i l.length (by omega), ixA g off l.length cap i hil, ldA 42 hld, kC Try.func15 hA, kC Try.func8 haw] hR (fun _ h => h) I fun β4 a4 w4 I hb4 => ?_
        exact endR (retV (v := .bool true) I ⟨rfl, I.hJ.bw⟩)
    · obtain rfl : i = l.length := by omega
      rw [List.take_length] at hS
      have hk : ∀ x ∈ l, x.2.2.1 = 0 := fun x hx => by
        obtain ⟨j, hj⟩ := List.mem_iff_getElem?.1 hx
        exact hk0 j x (List.getElem?_eq_some_iff.1 hj).1 hj
      have hpd := pd_map (h := S) hk (by omega)
      have hrs := rs_map (h := S) hk (by omega)
      have hsum : S - (pdL S l []).sum = m := by rw [hpd]; show S - smA l = m; omega
      have hT := fun (w' : World) (hq : AlI w' (.slice ad l.length cap) l) => transfer_ok (vp := .slice none 0 0) (p := []) (h := S) hq (SlI.nil _ _) (by omega) (by decide) (rf_nil l) List.Pairwise.nil hW
      rw [hsum, hpd, hrs] at hT
      refine goQ [lF l.length l.length (by omega)] hR I fun β4 a4 w4 I hb4 => ?_
      refine endE 0 ?_
      refine goQ [] hR (I.exit _) fun β5 a5 w5 I hb5 => ?_
      refine mcall (f := 9) (ss := [Sum.inl (U S), Sum.inl (.slice ad l.length cap), Sum.inl (.slice none 0 0)]) Try.func9 I ((hT w5 (I.hJ.at 0 (f := alF (.slice ad l.length cap) l) rfl)).mono fun e w6 hr => ?_)
      obtain ⟨v1, v2, rfl, hn⟩ := hr
      obtain ⟨K6, I⟩ := I.gs hn (.tuple #[v1, v2, U m, Z 0])
      obtain ⟨ad1, cap1, hv1⟩ := (I.hJ.at 0 (f := alF v1 (l.map fun x => rsX x x.2.1)) rfl).slice
      obtain ⟨ad2, cap2, hv2⟩ := (I.hJ.at 1 (f := nuF v2 (l.map (·.2.1))) rfl).slice
      rw [List.length_map] at hv1 hv2
      subst hv1 hv2
      refine goT (T := GS w w w.heap.size noK K6 ([alF (.slice ad1 l.length cap1) (l.map fun x => rsX x x.2.1), nuF (.slice ad2 l.length cap2) (l.map (·.2.1))] ++ [alF (.slice ad l.length cap) l]) []) [bO .neq 30 (run_neE (x := 0) (y := 0) (b := false) rfl), bO .neq 24 (neqU_run hm hm (b := false) (decide_eq_false (fun h => h rfl))), lnA ad1 l.length cap1, lnA ad l.length cap, bO .neq 3 (run_neqZ (x := l.length) (y := l.length) (b := false) (decide_eq_false (fun h => h rfl))), lnU ad2 l.length cap2, lnA ad l.length cap, bO .neq 3 (run_neqZ (x := l.length) (y := l.length) (b := false) (decide_eq_false (fun h => h rfl))), lnA ad l.length cap] (GS.rsr _ _ _ _ _ _ _) (fun _ h => h) I fun β7 a7 w7 I hb7 => ?_
      let St1 : Nat → Act → World → Prop := fun k a w' => ∃ (i : Nat) (β : Nat → Nat) (u : Nat → Value), k = l.length - i ∧ i ≤ l.length ∧
        SI (GS w w w.heap.size noK K6 ([alF (.slice ad1 l.length cap1) (l.map fun x => rsX x x.2.1), nuF (.slice ad2 l.length cap2) (l.map (·.2.1))] ++ [alF (.slice ad l.length cap) l]) []) (GF noK K6 []) [] β (cfC (bodyLk Try.f6 1) (fillF (scrF 141 w1K) u 0 (w1V (.slice ad l.length cap) (.slice ad1 l.length cap1) (.slice ad2 l.length cap2) l.length i)) [(0, rU m), (2, rU m)] 3) a w'
      refine lpM (bodyLk Try.f6 1) St1 l.length ?_ ?_
      · obtain ⟨u, Iu⟩ := I.scr (bodyLk Try.f6 1) (scrF 141 w1K) (w1V (.slice ad l.length cap) (.slice ad1 l.length cap1) (.slice ad2 l.length cap2) l.length 0) [(0, rU m), (2, rU m)] 3
        exact ⟨0, β7, u, by omega, Nat.zero_le _, Iu⟩
      rintro k a8 w8 ⟨i, β8, u, rfl, hi, I⟩
      refine wp_cfC (tm := fillF (scrF 141 w1K) u 0 (w1V (.slice ad l.length cap) (.slice ad1 l.length cap1) (.slice ad2 l.length cap2) l.length i)) (rows := [(0, rU m), (2, rU m)]) (nx := 3) ?_
      have hR6 := GS.rsr w w w.heap.size noK K6 ([alF (.slice ad1 l.length cap1) (l.map fun x => rsX x x.2.1), nuF (.slice ad2 l.length cap2) (l.map (·.2.1))] ++ [alF (.slice ad l.length cap) l]) []
      rcases Nat.lt_or_ge i l.length with hil | hil
      · obtain ⟨x, hx⟩ : ∃ t, l[i]? = some t := ⟨_, List.getElem?_eq_getElem hil⟩
        obtain ⟨g, off, cs, rfl, hlt, hca, rfl, hxl⟩ := hml i _ hx
        have hr1 : (l.map fun x => rsX x x.2.1)[i]? = some (rsX x x.2.1) := by rw [List.getElem?_map, hx]; rfl
        have hr2 : (l.map (·.2.1))[i]? = some x.2.1 := by rw [List.getElem?_map, hx]; rfl
        obtain ⟨g1, off1, rfl⟩ : ∃ g off, ad1 = some ⟨g, off, none⟩ := by
          obtain ⟨ad', cap', he, hmc⟩ := I.hJ.at 0 (f := alF (.slice ad1 l.length cap1) (l.map fun x => rsX x x.2.1)) rfl
          rw [List.length_map] at he
          cases he
          obtain ⟨gc, offc, cs, h1, _⟩ := hmc i _ hr1
          exact ⟨gc, offc, h1⟩
        obtain ⟨g2, off2, rfl⟩ : ∃ g off, ad2 = some ⟨g, off, none⟩ := by
          obtain ⟨ad', cap', he, hmc⟩ := I.hJ.at 1 (f := nuF (.slice ad2 l.length cap2) (l.map (·.2.1))) rfl
          rw [List.length_map] at he
          cases he
          obtain ⟨gc, offc, cs, h1, _⟩ := hmc i _ hr2
          exact ⟨gc, offc, h1⟩
        have hl0 : ∀ w', GS w w w.heap.size noK K6 ([alF (.slice (some ⟨g1, off1, none⟩) l.length cap1) (l.map fun x => rsX x x.2.1), nuF (.slice (some ⟨g2, off2, none⟩) l.length cap2) (l.map (·.2.1))] ++ [alF (.slice (some ⟨g, off, none⟩) l.length cap) l]) [] w' → CellsAt w' g1 (off1 + i * 8) (al8 (rsX x x.2.1)) := fun w' hw => by
          obtain ⟨ad', cap', he, hmc⟩ := hw.at 0 (f := alF (.slice (some ⟨g1, off1, none⟩) l.length cap1) (l.map fun x => rsX x x.2.1)) rfl
          rw [List.length_map] at he
          cases he
          obtain ⟨g', off', cs, he2, _, hcc, rfl, _⟩ := hmc i _ hr1
          cases he2
          exact hcc
        have hl2 : ∀ w', GS w w w.heap.size noK K6 ([alF (.slice (some ⟨g1, off1, none⟩) l.length cap1) (l.map fun x => rsX x x.2.1), nuF (.slice (some ⟨g2, off2, none⟩) l.length cap2) (l.map (·.2.1))] ++ [alF (.slice (some ⟨g, off, none⟩) l.length cap) l]) [] w' → (loadVar 24 ⟨g2, off2 + i * 4, none⟩).run Try.prog w' = .ok (U x.2.1) w' := fun w' hw => by
          obtain ⟨ad', cap', he, hmc⟩ := hw.at 1 (f := nuF (.slice (some ⟨g2, off2, none⟩) l.length cap2) (l.map (·.2.1))) rfl
          rw [List.length_map] at he
          cases he
          obtain ⟨g', off', cs, he2, _, hcc, rfl, _⟩ := hmc i _ hr2
          cases he2
          exact loadNu hcc
        refine goQ [lT i l.length (by omega)] hR6 I fun β9 a9 w9 I hb9 => ?_
        refine dwT (T := GS w w w.heap.size noK K6 ([alF (.slice (some ⟨g1, off1, none⟩) l.length cap1) (l.map fun x => rsX x x.2.1), nuF (.slice (some ⟨g2, off2, none⟩) l.length cap2) (l.map (·.2.1))] ++ [alF (.slice (some ⟨g, off, none⟩) l.length cap) l]) []) 32 [ixA g1 off1 l.length cap1 i hil, ldA 24 (v := U 0) (fun w' hw => (loadU (hl0 w' hw)).trans (by rw [show (rsX x x.2.1).2.1 = 0 from Nat.sub_self _])), dO 24 [] bd_Uz, bO .neq 24 (neqU_run W_pos W_pos (b := false) (decide_eq_false (fun h => h rfl))), ixU g2 off2 l.length cap2 i hil, ldA 24 hl2, ixA g off l.length cap i hil, ldA 24 (fun w' hw => loadU (hca.keep (hw.bw.block g hlt))), bO .neq 24 (neqU_run hxl hxl (b := false) (decide_eq_false (fun h => h rfl))), ixA g1 off1 l.length cap1 i hil, ldA 9 (v := .string x.1) (fun w' hw => loadD (c := rsX x x.2.1) (hl0 w' hw)), ixA g off l.length cap i hil, ldA 9 (fun w' hw => loadD (hca.keep (hw.bw.block g hlt))), bO .neq 9 (neqT_run (a := x.1) (b := x.1) (q := false) (decide_eq_false (fun h => h rfl)))] hR6 (fun _ h => h) (PanOk.then (PanOk.qk PanOk.post)) I fun a10 w10 I => ?_
        refine goQ [p1 i (by omega)] hR6 I fun β11 a11 w11 I hb11 => ?_
        obtain ⟨u', Iu⟩ := I.scr (bodyLk Try.f6 1) (scrF 141 w1K) (w1V (.slice (some ⟨g, off, none⟩) l.length cap) (.slice (some ⟨g1, off1, none⟩) l.length cap1) (.slice (some ⟨g2, off2, none⟩) l.length cap2) l.length (i + 1)) [(0, rU m), (2, rU m)] 3
        exact endL ⟨l.length - (i + 1), by omega, i + 1, β11, u', rfl, hil, Iu⟩
      · obtain rfl : i = l.length := by omega
        have hzz : ∀ x ∈ (l.map fun x => rsX x x.2.1), x.2.1 = 0 := fun x hx => by
          obtain ⟨y, _, rfl⟩ := List.mem_map.1 hx
          exact Nat.sub_self _
        have hT2 := fun (w' : World) (hq : AlI w' (.slice ad1 l.length cap1) (l.map fun x => rsX x x.2.1)) => transfer_ok (vp := .slice none 0 0) (p := []) (h := m) hq (SlI.nil _ _) (by rw [List.length_map]; omega) (by decide) (rf_nil _) List.Pairwise.nil hm
        have hpn := pd_none (h := m) hzz
        rw [sum_none hpn, Nat.sub_zero] at hT2
        generalize hpdz : pdL m (l.map fun x => rsX x x.2.1) [] = pz at *
        have hplz : pz.length = l.length := by rw [← hpdz, pdL_len, List.length_map]
        generalize rsL m (l.map fun x => rsX x x.2.1) [] = rz at *
        refine goQ [lF l.length l.length (by omega)] hR6 I fun β9 a9 w9 I hb9 => ?_
        refine endE 2 ?_
        refine goQ [] hR6 (I.exit _) fun β10 a10 w10 I hb10 => ?_
        refine mcall (f := 9) (ss := [Sum.inl (U m), Sum.inl (.slice ad1 l.length cap1), Sum.inl (.slice none 0 0)]) Try.func9 I ((hT2 w10 (I.hJ.at 0 (f := alF (.slice ad1 l.length cap1) (l.map fun x => rsX x x.2.1)) rfl)).mono fun e w11 hr => ?_)
        obtain ⟨v3, v4, rfl, hn⟩ := hr
        obtain ⟨K11, I⟩ := I.gs hn (.tuple #[v3, v4, U m, Z 0])
        obtain ⟨ad4, cap4, hv4⟩ := (I.hJ.at 1 (f := nuF v4 pz) rfl).slice
        subst hv4
        refine goQ [lnU ad4 pz.length cap4] (GS.rsr _ _ _ _ _ _ _) I fun β12 a12 w12 I hb12 => ?_
        let St2 : Nat → Act → World → Prop := fun k a w' => ∃ (i : Nat) (β : Nat → Nat) (u : Nat → Value), k = pz.length - i ∧ i ≤ pz.length ∧
          SI (GS w w w.heap.size noK K11 ([alF v3 rz, nuF (.slice ad4 pz.length cap4) pz] ++ ([alF (.slice ad1 l.length cap1) (l.map fun x => rsX x x.2.1), nuF (.slice ad2 l.length cap2) (l.map (·.2.1))] ++ [alF (.slice ad l.length cap) l])) []) (GF noK K11 []) [] β (cfC (bodyLk Try.f6 2) (fillF (scrF 141 (w2K)) u 0 (w2V (.slice ad4 pz.length cap4) pz.length i)) [(2, rU m), (3, rU m)] 4) a w'
        refine lpM (bodyLk Try.f6 2) St2 pz.length ?_ ?_
        · obtain ⟨u, Iu⟩ := I.scr (bodyLk Try.f6 2) (scrF 141 w2K) (w2V (.slice ad4 pz.length cap4) pz.length 0) [(2, rU m), (3, rU m)] 4
          exact ⟨0, β12, u, by omega, Nat.zero_le _, Iu⟩
        rintro k a13 w13 ⟨i, β13, u, rfl, hi, I⟩
        refine wp_cfC (tm := fillF (scrF 141 w2K) u 0 (w2V (.slice ad4 pz.length cap4) pz.length i)) (rows := [(2, rU m), (3, rU m)]) (nx := 4) ?_
        have hR11 := GS.rsr w w w.heap.size noK K11 ([alF v3 rz, nuF (.slice ad4 pz.length cap4) pz] ++ ([alF (.slice ad1 l.length cap1) (l.map fun x => rsX x x.2.1), nuF (.slice ad2 l.length cap2) (l.map (·.2.1))] ++ [alF (.slice ad l.length cap) l])) []
        rcases Nat.lt_or_ge i pz.length with hil | hil
        · obtain ⟨x, hx⟩ : ∃ t, pz[i]? = some t := ⟨_, List.getElem?_eq_getElem hil⟩
          have hx0 : x = 0 := hpn x (List.mem_of_getElem? hx)
          subst hx0
          obtain ⟨g4, off4, rfl⟩ : ∃ g off, ad4 = some ⟨g, off, none⟩ := by
            obtain ⟨ad', cap', he, hmc⟩ := I.hJ.at 1 (f := nuF (.slice ad4 pz.length cap4) pz) rfl
            cases he
            obtain ⟨gc, offc, cs, h1, _⟩ := hmc i _ hx
            exact ⟨gc, offc, h1⟩
          have hl4 : ∀ w', GS w w w.heap.size noK K11 ([alF v3 rz, nuF (.slice (some ⟨g4, off4, none⟩) pz.length cap4) pz] ++ ([alF (.slice ad1 l.length cap1) (l.map fun x => rsX x x.2.1), nuF (.slice ad2 l.length cap2) (l.map (·.2.1))] ++ [alF (.slice ad l.length cap) l])) [] w' → (loadVar 24 ⟨g4, off4 + i * 4, none⟩).run Try.prog w' = .ok (U 0) w' := fun w' hw => by
            obtain ⟨ad', cap', he, hmc⟩ := hw.at 1 (f := nuF (.slice (some ⟨g4, off4, none⟩) pz.length cap4) pz) rfl
            cases he
            obtain ⟨g', off', cs, he2, _, hcc, rfl, _⟩ := hmc i _ hx
            cases he2
            exact loadNu hcc
          refine goT (T := GS w w w.heap.size noK K11 ([alF v3 rz, nuF (.slice (some ⟨g4, off4, none⟩) pz.length cap4) pz] ++ ([alF (.slice ad1 l.length cap1) (l.map fun x => rsX x x.2.1), nuF (.slice ad2 l.length cap2) (l.map (·.2.1))] ++ [alF (.slice ad l.length cap) l])) []) [lT i pz.length (by omega), ixU g4 off4 pz.length cap4 i hil, ldA 24 hl4, dO 24 [] bd_Uz, bO .neq 24 (neqU_run W_pos W_pos (b := false) (decide_eq_false (fun h => h rfl))), p1 i (by omega)] hR11 (fun _ h => h) I fun β14 a14 w14 I hb14 => ?_
          obtain ⟨u', Iu⟩ := I.scr (bodyLk Try.f6 2) (scrF 141 w2K) (w2V (.slice (some ⟨g4, off4, none⟩) pz.length cap4) pz.length (i + 1)) [(2, rU m), (3, rU m)] 4
          exact endL ⟨pz.length - (i + 1), by omega, i + 1, β14, u', rfl, hil, Iu⟩
        · obtain rfl : i = pz.length := by omega
          refine goQ [lF pz.length pz.length (by omega)] hR11 I fun β14 a14 w14 I hb14 => ?_
          refine endE 4 ?_
          refine goQ [bO .eql 30 (run_eqE (x := 0) (y := 0) (b := true) rfl), bO .eql 24 (eqU_run hm hm (b := true) (decide_eq_true rfl)), kC Try.func8 haw] hR11 (I.exit _) fun β15 a15 w15 I hb15 => ?_
          exact outQ (v := .bool true) I ⟨rfl, I.hJ.bw⟩
  · rw [decide_eq_false (show ¬ (l.length ≤ 60 ∧ ([] : List Int).length ≤ 100) from fun h => q1 h.1)] at hfw
    refine goT [cA Try.func7 hfw, ntO false, kC Try.func8 haw] hR (fun _ h => h) I fun β1 a1 w1 I hb1 => ?_
    exact outQ (v := .bool true) I ⟨rfl, I.hJ.bw⟩
end Go.Proofs.Ytabghfcjpaileaa
