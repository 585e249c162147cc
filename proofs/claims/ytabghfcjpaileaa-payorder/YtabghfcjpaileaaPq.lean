/- PayOrder: for all money and allocations. -/
import Derived.Test.YtabghfcjpaileaaPm
namespace Go.Proofs.Ytabghfcjpaileaa
open Go.RowKit Go.Sort
set_option linter.unusedVariables false
set_option maxRecDepth 100000
theorem rf_nilq (l : List Al) : rfE l [] = 0 := rfl
theorem nm_nilq (k : Int) : nmB [] k = true := by simp [nmB]
theorem sum_noneq : ∀ {l : List Nat}, (∀ n ∈ l, n = 0) → l.sum = 0
  | [], _ => rfl
  | n :: l, h => by
    rw [List.sum_cons, h n List.mem_cons_self, sum_noneq fun m hm => h m (List.mem_cons_of_mem _ hm)]
/-- All that were paid, the first ones first; those behind some are as they were. -/
def raA (h : Nat) (l : List Al) : List Al := l.mapIdx fun j x => rsX x (shN h l j x)
def stL (h : Nat) (l : List Al) (i : Nat) : List Al := (raA h l).take i ++ l.drop i
theorem raA_len (h : Nat) (l : List Al) : (raA h l).length = l.length := by simp [raA]
theorem raA_get (h : Nat) {l : List Al} {i : Nat} {x : Al} (hx : l[i]? = some x) : (raA h l)[i]? = some (rsX x (shN h l i x)) := by
  unfold raA
  rw [List.getElem?_mapIdx, hx]
  rfl
theorem stL_len (h : Nat) (l : List Al) {i : Nat} (hi : i ≤ l.length) : (stL h l i).length = l.length := by
  unfold stL
  rw [List.length_append, List.length_take, List.length_drop, raA_len]
  omega
theorem stL_zero (h : Nat) (l : List Al) : stL h l 0 = l := by simp [stL]
theorem stL_lo (h : Nat) {l : List Al} {i j : Nat} (hi : i ≤ l.length) (hj : j < i) : (stL h l i)[j]? = (raA h l)[j]? := by
  unfold stL
  rw [List.getElem?_append_left (by rw [List.length_take, raA_len]; omega), List.getElem?_take, if_pos hj]
theorem stL_hi (h : Nat) {l : List Al} {i j : Nat} (hi : i ≤ l.length) (hj : i ≤ j) : (stL h l i)[j]? = l[j]? := by
  unfold stL
  rw [List.getElem?_append_right (by rw [List.length_take, raA_len]; omega), List.length_take, raA_len, List.getElem?_drop]
  congr 1
  omega
theorem stL_take (h : Nat) {l : List Al} {i : Nat} (hi : i ≤ l.length) : (stL h l i).take i = (raA h l).take i := by
  unfold stL
  rw [List.take_append_of_le_length (by rw [List.length_take, raA_len]; omega), List.take_take, Nat.min_self]
theorem sm_ra (h : Nat) (l : List Al) : ∀ i, i ≤ l.length → smA ((raA h l).take i) + min h (smA (l.take i)) = smA (l.take i)
  | 0, _ => by simp [smA]
  | i + 1, hi => by
    obtain ⟨x, hx⟩ : ∃ t, l[i]? = some t := ⟨_, List.getElem?_eq_getElem (by omega)⟩
    have h1 := sm_ra h l i (by omega)
    have h2 := smA_take hx
    have h3 := smA_take (raA_get h hx)
    have h4 : (rsX x (shN h l i x)).2.1 = x.2.1 - shN h l i x := rfl
    have h5 : shN h l i x = min (h - smA (l.take i)) x.2.1 := rfl
    rw [h4, h5] at h3
    omega
theorem sh_step (h : Nat) {l : List Al} {i : Nat} {x : Al} (hx : l[i]? = some x) : shN (lfN h l i) (stL h l i) i x = shN h l i x := by
  have hi := (List.getElem?_eq_some_iff.1 hx).1
  have h1 := sm_ra h l i (by omega)
  unfold shN
  have e : lfN (lfN h l i) (stL h l i) i = lfN h l i - smA ((raA h l).take i) := by
    show lfN h l i - smA ((stL h l i).take i) = _
    rw [stL_take h (by omega)]
  rw [e]
  unfold lfN
  omega
theorem nm_one {i j : Nat} : nmB [(i : Int)] (j : Int) = decide (j = i) := by
  unfold nmB
  by_cases h : j = i
  · simp [h]
  · have : ¬ (j : Int) = i := by omega
    simp [h, this]
theorem kd_st {h : Nat} {l : List Al} (hk : ∀ x ∈ l, x.2.2.1 = 0) (i : Nat) : ∀ x ∈ stL h l i, x.2.2.1 = 0 := fun x hx => by
  unfold stL at hx
  rcases List.mem_append.1 hx with hx | hx
  · have hx := List.mem_of_mem_take hx
    obtain ⟨j, hj⟩ := List.mem_iff_getElem?.1 hx
    have hjl := (List.getElem?_eq_some_iff.1 hj).1
    rw [raA_len] at hjl
    obtain ⟨y, hy⟩ : ∃ t, l[j]? = some t := ⟨_, List.getElem?_eq_getElem hjl⟩
    rw [raA_get h hy] at hj
    cases hj
    exact hk y (List.mem_of_getElem? hy)
  · exact hk x (List.mem_of_mem_drop hx)
theorem rsX_zero (x : Al) : rsX x 0 = x := rfl
theorem pd_one {h : Nat} {l : List Al} (hk : ∀ x ∈ l, x.2.2.1 = 0) {i j : Nat} {y : Al} (hy : (stL h l i)[j]? = some y) : pdN (lfN h l i) (stL h l i) [(i : Int)] j y = if j = i then shN (lfN h l i) (stL h l i) i y else 0 := by
  unfold pdN
  rw [nm_one]
  by_cases h : j = i
  · subst h
    rw [if_pos ⟨kd_st hk j y (List.mem_of_getElem? hy), by simp⟩, if_pos rfl]
  · rw [if_neg (by simp [h]), if_neg h]
theorem st_step {h : Nat} {l : List Al} (hk : ∀ x ∈ l, x.2.2.1 = 0) {i : Nat} {x : Al} (hx : l[i]? = some x) : rsL (lfN h l i) (stL h l i) [(i : Int)] = stL h l (i + 1) := by
  have hi := (List.getElem?_eq_some_iff.1 hx).1
  apply List.ext_getElem?
  intro j
  rcases Nat.lt_or_ge j l.length with hj | hj
  · obtain ⟨y, hy⟩ : ∃ t, (stL h l i)[j]? = some t := ⟨_, List.getElem?_eq_getElem (by rw [stL_len h l (by omega)]; exact hj)⟩
    rw [rsL_get _ _ hy, pd_one hk hy]
    rcases Nat.lt_trichotomy j i with h1 | h1 | h1
    · rw [if_neg (by omega), rsX_zero, stL_lo h (by omega) (by omega), ← stL_lo h (i := i) (by omega) h1, hy]
    · subst h1
      rw [stL_hi h (by omega) (Nat.le_refl _), hx] at hy
      cases hy
      rw [if_pos rfl, sh_step h hx, stL_lo h (by omega) (by omega), raA_get h hx]
    · rw [if_neg (by omega), rsX_zero, stL_hi h (by omega) (by omega), ← stL_hi h (i := i) (by omega) (by omega), hy]
  · rw [List.getElem?_eq_none (by rw [rsL_len, stL_len h l (by omega)]; exact hj), List.getElem?_eq_none (by rw [stL_len h l (by omega)]; exact hj)]
theorem sum_at : ∀ {l : List Nat} {i n : Nat}, l[i]? = some n → (∀ j m, j ≠ i → l[j]? = some m → m = 0) → l.sum = n
  | [], i, n, h, _ => by simp at h
  | a :: l, 0, n, h, hz => by
    simp only [List.getElem?_cons_zero, Option.some.injEq] at h
    subst h
    rw [List.sum_cons, sum_noneq fun m hm => by
      obtain ⟨j, hj⟩ := List.mem_iff_getElem?.1 hm
      exact hz (j + 1) m (by omega) (by simpa using hj), Nat.add_zero]
  | a :: l, i + 1, n, h, hz => by
    rw [List.sum_cons, hz 0 a (by omega) (by simp), Nat.zero_add]
    exact sum_at (i := i) (by simpa using h) fun j m hj hm => hz (j + 1) m (by omega) (by simpa using hm)
theorem pd_at {h : Nat} {l : List Al} (hk : ∀ x ∈ l, x.2.2.1 = 0) {i : Nat} {x : Al} (hx : l[i]? = some x) : (pdL (lfN h l i) (stL h l i) [(i : Int)])[i]? = some (shN h l i x) ∧ (pdL (lfN h l i) (stL h l i) [(i : Int)]).sum = shN h l i x := by
  have hi := (List.getElem?_eq_some_iff.1 hx).1
  have hy : (stL h l i)[i]? = some x := by rw [stL_hi h (by omega) (Nat.le_refl _), hx]
  have h1 : (pdL (lfN h l i) (stL h l i) [(i : Int)])[i]? = some (shN h l i x) := by
    rw [pdL_get _ _ hy, pd_one hk hy, if_pos rfl, sh_step h hx]
  refine ⟨h1, sum_at h1 fun j m hj hm => ?_⟩
  have hjl := (List.getElem?_eq_some_iff.1 hm).1
  rw [pdL_len] at hjl
  obtain ⟨y, hz⟩ : ∃ t, (stL h l i)[j]? = some t := ⟨_, List.getElem?_eq_getElem hjl⟩
  rw [pdL_get _ _ hz, pd_one hk hz, if_neg hj] at hm
  cases hm
  rfl
theorem rf_one {h : Nat} {l : List Al} (hk : ∀ x ∈ l, x.2.2.1 = 0) {i : Nat} (hi : i < l.length) : rfE (stL h l i) [(i : Int)] = 0 := by
  refine rfE_zero (whB_iff.2 fun j hj => ?_) fun x hx => ?_
  · obtain rfl : j = 0 := by simpa using hj
    rw [stL_len h l (by omega)]
    show (0 : Int) ≤ i ∧ (i : Int) < l.length
    omega
  · rw [List.mem_singleton.1 hx]
    unfold plJ
    rw [Int.toNat_natCast]
    obtain ⟨y, hy⟩ : ∃ t, (stL h l i)[i]? = some t := ⟨_, List.getElem?_eq_getElem (by rw [stL_len h l (by omega)]; exact hi)⟩
    rw [getD_get hy, decide_eq_true (kd_st hk i y (List.mem_of_getElem? hy))]
theorem pd_sh {h : Nat} {l : List Al} (hk : ∀ x ∈ l, x.2.2.1 = 0) {i : Nat} {x : Al} (hx : l[i]? = some x) : pdN h l [] i x = shN h l i x := by
  unfold pdN
  rw [if_pos ⟨hk x (List.mem_of_getElem? hx), nm_nilq _⟩]
theorem hd_lf {h : Nat} {l : List Al} (hk : ∀ x ∈ l, x.2.2.1 = 0) : ∀ i, i ≤ l.length → hdN h l [] i = lfN h l i
  | 0, _ => by rw [lfN_zero]; simp [hdN]
  | i + 1, hi => by
    obtain ⟨x, hx⟩ : ∃ t, l[i]? = some t := ⟨_, List.getElem?_eq_getElem (by omega)⟩
    rw [(hd_step h [] hx).2, hd_lf hk i (by omega), pd_sh hk hx, lfN_step h hx]
theorem st_end {h : Nat} {l : List Al} (hk : ∀ x ∈ l, x.2.2.1 = 0) : stL h l l.length = rsL h l [] := by
  apply List.ext_getElem?
  intro j
  rcases Nat.lt_or_ge j l.length with hj | hj
  · obtain ⟨x, hx⟩ : ∃ t, l[j]? = some t := ⟨_, List.getElem?_eq_getElem hj⟩
    rw [stL_lo h (Nat.le_refl _) hj, raA_get h hx, rsL_get h [] hx, pd_sh hk hx]
  · rw [List.getElem?_eq_none (by rw [stL_len h l (Nat.le_refl _)]; exact hj), List.getElem?_eq_none (by rw [rsL_len]; exact hj)]
theorem GS.weak {w0 WR w : World} {b : Nat} {Kp K : Nat → Prop} {Fs Gs : List Lf} {O : List Ow} (h : GS w0 WR b Kp K Fs O w) (hs : ∀ f ∈ Gs, f ∈ Fs) : GS w0 WR b Kp K Gs O w := ⟨h.bw, h.rs, h.bs, h.kk, h.nc, h.kb, h.lo, fun f hf => h.sl f (hs f hf), h.ow, h.on, h.ap⟩
abbrev o0K : List Nat := [1, 2, 4, 25, 26, 27]
abbrev o0V (v : Value) (n i : Nat) : Vs := frm 102 [(1, Sum.inl v), (2, Sum.inr (0, 0)), (4, Sum.inl (.bool false)), (25, Sum.inl v), (26, Sum.inl (Z n)), (27, Sum.inl (Z i))]
abbrev o1K : List Nat := [1, 2, 4, 7, 8, 9, 54, 55]
abbrev o1V (v v1 v2 : Value) (n i : Nat) : Vs := frm 102 [(1, Sum.inl v), (2, Sum.inr (0, 0)), (4, Sum.inl (.bool false)), (7, Sum.inl v1), (8, Sum.inl v2), (9, Sum.inr (1, 0)), (54, Sum.inl (Z n)), (55, Sum.inl (Z i))]
set_option maxHeartbeats 8000000 in
theorem order_walk {w : World} {v : Value} {l : List Al} {h : Nat} (hv : AlI w v l) (hh : h < W) : Calls Try.prog 5 #[U h, v] w fun e w' => e = .returned (.bool true) ∧ Below w.heap.size w w' := by
  have haw := awake_any
  obtain ⟨ad, cap, rfl, hml⟩ := hv
  have hv : AlI w (.slice ad l.length cap) l := ⟨ad, cap, rfl, hml⟩
  have hfw := fun (w' : World) (hw : GS w w w.heap.size noK (· < w.heap.size) ([alF (.slice ad l.length cap) l]) [] w') => few_any (v2 := .slice none 0 0) (p := []) (hw.at 0 (f := alF (.slice ad l.length cap) l) rfl) (SlI.nil _ _)
  refine inQ (J := GS w w w.heap.size noK (· < w.heap.size) ([alF (.slice ad l.length cap) l]) []) (F := GF noK (· < w.heap.size) []) Try.func5 (GS.start w fun f hf => by rw [List.mem_singleton.1 hf]; exact hv) fun a I => ?_
  have hR := GS.rsr w w w.heap.size noK (· < w.heap.size) ([alF (.slice ad l.length cap) l]) []
  by_cases q1 : l.length ≤ 60
  · rw [decide_eq_true (show l.length ≤ 60 ∧ ([] : List Int).length ≤ 100 from ⟨q1, by decide⟩)] at hfw
    by_cases q0 : l.length = 0
    · refine goT [cA Try.func7 hfw, ntO true, lnA ad l.length cap, bO .eql 3 (run_eqlZ (x := l.length) (y := 0) (b := true) (decide_eq_true (by omega))), kC Try.func8 haw] hR (fun _ h => h) I fun β1 a1 w1 I hb1 => ?_
      exact outQ (v := .bool true) I ⟨rfl, I.hJ.bw⟩
    refine goT [cA Try.func7 hfw, ntO true, lnA ad l.length cap, bO .eql 3 (run_eqlZ (x := l.length) (y := 0) (b := false) (decide_eq_false (by omega))), lnA ad l.length cap] hR (fun _ h => h) I fun β1 a1 w1 I hb1 => ?_
    let St : Nat → Act → World → Prop := fun k a w' => ∃ (i : Nat) (β : Nat → Nat) (u : Nat → Value), k = l.length - i ∧ i ≤ l.length ∧ (∀ j x, j < i → l[j]? = some x → x.2.2.1 = 0) ∧
      SI (GS w w w.heap.size noK (· < w.heap.size) ([alF (.slice ad l.length cap) l]) []) (GF noK (· < w.heap.size) []) [] β (cfC (bodyLk Try.f5 0) (fillF (scrF 102 o0K) u 0 (o0V (.slice ad l.length cap) l.length i)) [(0, rU h)] 1) a w'
    refine lpM (bodyLk Try.f5 0) St l.length ?_ ?_
    · obtain ⟨u, Iu⟩ := I.scr (bodyLk Try.f5 0) (scrF 102 o0K) (o0V (.slice ad l.length cap) l.length 0) [(0, rU h)] 1
      exact ⟨0, β1, u, by omega, Nat.zero_le _, fun j x h => absurd h (Nat.not_lt_zero j), Iu⟩
    rintro k a3 w3 ⟨i, β3, u, rfl, hi, hk0, I⟩
    refine wp_cfC (tm := fillF (scrF 102 o0K) u 0 (o0V (.slice ad l.length cap) l.length i)) (rows := [(0, rU h)]) (nx := 1) ?_
    rcases Nat.lt_or_ge i l.length with hil | hil
    · obtain ⟨x, hx⟩ : ∃ t, l[i]? = some t := ⟨_, List.getElem?_eq_getElem hil⟩
      obtain ⟨g, off, cs, rfl, hlt, hca, rfl, hxl⟩ := hml i _ hx
      have hld : ∀ w', GS w w w.heap.size noK (· < w.heap.size) ([alF (.slice (some ⟨g, off, none⟩) l.length cap) l]) [] w' → (loadVar 42 ⟨g, off + i * 8, none⟩).run Try.prog w' = .ok (alV x) w' := fun w' hw => loadAl (hca.keep (hw.bw.block g hlt))
      have hnext : x.2.2.1 = 0 → ∀ j y, j < i + 1 → l[j]? = some y → y.2.2.1 = 0 := fun hz j y hj hy => by
        rcases Nat.lt_or_ge j i with hji | hji
        · exact hk0 j y hji hy
        · obtain rfl : j = i := by omega
          rw [hx] at hy; cases hy; exact hz
      obtain ⟨d, am, kd, le, ri⟩ := x
      unfold alV al8 at hld
      simp only [] at hld hnext
      by_cases hk : kd = 0
      · refine goT [lT i l.length (by omega), ixA g off l.length cap i hil, ldA 42 hld, bO .neq 3 (run_neqZ (x := kd) (y := 0) (b := false) (decide_eq_false (not_not_intro hk))), p1 i (by omega)] hR (fun _ h => h) I fun β4 a4 w4 I hb4 => ?_
        obtain ⟨u', Iu⟩ := I.scr (bodyLk Try.f5 0) (scrF 102 o0K) (o0V (.slice (some ⟨g, off, none⟩) l.length cap) l.length (i + 1)) [(0, rU h)] 1
        exact endL ⟨l.length - (i + 1), by omega, i + 1, β4, u', rfl, hil, hnext hk, Iu⟩
      · refine goT [lT i l.length (by omega), ixA g off l.length cap i hil, ldA 42 hld, bO .neq 3 (run_neqZ (x := kd) (y := 0) (b := true) (decide_eq_true hk)), kC Try.func8 haw] hR (fun _ h => h) I fun β4 a4 w4 I hb4 => ?_
        exact endR (retV (v := .bool true) I ⟨rfl, I.hJ.bw⟩)
    · obtain rfl : i = l.length := by omega
      have hk : ∀ x ∈ l, x.2.2.1 = 0 := fun x hx => by
        obtain ⟨j, hj⟩ := List.mem_iff_getElem?.1 hx
        exact hk0 j x (List.getElem?_eq_some_iff.1 hj).1 hj
      have hT := fun (w' : World) (hq : AlI w' (.slice ad l.length cap) l) => transfer_ok (vp := .slice none 0 0) (p := []) (h := h) hq (SlI.nil _ _) (by omega) (by decide) (rf_nilq l) List.Pairwise.nil hh
      have hLf : h - (pdL h l []).sum = lfN h l l.length := by rw [← hd_all, hd_lf hk _ (Nat.le_refl _)]
      have hLW : ∀ i, lfN h l i < W := fun i => Nat.lt_of_le_of_lt (lfN_le h l i) hh
      rw [hLf] at hT
      have hrl := rsL_len h l []
      have hpl := pdL_len h l []
      refine goQ [lF l.length l.length (by omega)] hR I fun β4 a4 w4 I hb4 => ?_
      refine endE 0 ?_
      refine goQ [] hR (I.exit _) fun β5 a5 w5 I hb5 => ?_
      refine mcall (f := 9) (ss := [Sum.inl (U h), Sum.inl (.slice ad l.length cap), Sum.inl (.slice none 0 0)]) Try.func9 I ((hT w5 (I.hJ.at 0 (f := alF (.slice ad l.length cap) l) rfl)).mono fun e w6 hr => ?_)
      obtain ⟨v1, v2, rfl, hn⟩ := hr
      obtain ⟨K6, I⟩ := I.gs hn (.tuple #[v1, v2, U (lfN h l l.length), Z 0])
      obtain ⟨ad2, cap2, hv2⟩ := (I.hJ.at 1 (f := nuF v2 (pdL h l [])) rfl).slice
      rw [hpl] at hv2
      subst hv2
      refine goT (T := GS w w w.heap.size noK K6 ([alF v1 (rsL h l []), nuF (.slice ad2 l.length cap2) (pdL h l [])] ++ [alF (.slice ad l.length cap) l]) []) [bO .neq 30 (run_neE (x := 0) (y := 0) (b := false) rfl), lnU ad2 l.length cap2, lnA ad l.length cap, bO .neq 3 (run_neqZ (x := l.length) (y := l.length) (b := false) (decide_eq_false (fun h => h rfl))), lnA ad l.length cap] (GS.rsr _ _ _ _ _ _ _) (fun _ h => h) I fun β7 a7 w7 I hb7 => ?_
      let St1 : Nat → Act → World → Prop := fun k a w' => ∃ (i : Nat) (β : Nat → Nat) (u : Nat → Value) (K : Nat → Prop) (adc : Option Addr) (capc : Nat), k = l.length - i ∧ i ≤ l.length ∧
        SI (GS w w w.heap.size noK K [alF (.slice adc l.length capc) (stL h l i), alF v1 (rsL h l []), nuF (.slice ad2 l.length cap2) (pdL h l [])] []) (GF noK K []) [] β (cfC (bodyLk Try.f5 1) (fillF (scrF 102 o1K) u 0 (o1V (.slice adc l.length capc) v1 (.slice ad2 l.length cap2) l.length i)) [(0, rU (lfN h l i)), (1, rU (lfN h l l.length))] 2) a w'
      refine lpM (bodyLk Try.f5 1) St1 l.length ?_ ?_
      · obtain ⟨u, Iu⟩ := I.scr (bodyLk Try.f5 1) (scrF 102 o1K) (o1V (.slice ad l.length cap) v1 (.slice ad2 l.length cap2) l.length 0) [(0, rU h), (1, rU (lfN h l l.length))] 2
        have Iu2 := Iu.chg (J' := GS w w w.heap.size noK K6 [alF (.slice ad l.length cap) (stL h l 0), alF v1 (rsL h l []), nuF (.slice ad2 l.length cap2) (pdL h l [])] []) (Iu.hJ.weak fun f hf => by
          rw [stL_zero] at hf
          simp only [List.mem_cons, List.not_mem_nil, or_false] at hf
          rcases hf with rfl | rfl | rfl <;> simp) (fun k h => h)
        exact ⟨0, β7, u, K6, ad, cap, by omega, Nat.zero_le _, by rw [lfN_zero]; exact Iu2⟩
      rintro k a8 w8 ⟨i, β8, u, K, adc, capc, rfl, hi, I⟩
      obtain ⟨lf, hlf⟩ : ∃ z, lfN h l i = z := ⟨_, rfl⟩
      obtain ⟨lz, hlz⟩ : ∃ z, lfN h l l.length = z := ⟨_, rfl⟩
      rw [hlf, hlz] at I
      refine wp_cfC (tm := fillF (scrF 102 o1K) u 0 (o1V (.slice adc l.length capc) v1 (.slice ad2 l.length cap2) l.length i)) (rows := [(0, rU lf), (1, rU lz)]) (nx := 2) ?_
      have hRl := GS.rsr w w w.heap.size noK K [alF (.slice adc l.length capc) (stL h l i), alF v1 (rsL h l []), nuF (.slice ad2 l.length cap2) (pdL h l [])] []
      rcases Nat.lt_or_ge i l.length with hil | hil
      · obtain ⟨x, hx⟩ : ∃ t, l[i]? = some t := ⟨_, List.getElem?_eq_getElem hil⟩
        obtain ⟨hp1, hp2⟩ := pd_at (h := h) hk hx
        have hst := st_step (h := h) hk hx
        have hTi := fun (w' : World) (vp : Value) (hq : AlI w' (.slice adc l.length capc) (stL h l i)) (hq2 : InI w' vp [(i : Int)]) => transfer_ok (h := lfN h l i) hq hq2 (by rw [stL_len h l (by omega)]; omega) (by simp) (rf_one hk hil) (by simp) (hLW i)
        rw [hst, hp2, ← lfN_step h hx] at hTi
        have hpl2 : (pdL (lfN h l i) (stL h l i) [(i : Int)]).length = l.length := by rw [pdL_len, stL_len h l (by omega)]
        have hpx := pdL_get h [] hx
        rw [pd_sh hk hx] at hpx
        have hshW : shN h l i x < W := Nat.lt_of_le_of_lt (shN_le h l i x).1 (hLW i)
        have hlW1 := hLW (i + 1)
        rw [hlf] at hTi hp1 hpl2
        generalize pdL lf (stL h l i) [(i : Int)] = pq at *
        generalize shN h l i x = sh at *
        obtain ⟨lf1, hlf1⟩ : ∃ z, lfN h l (i + 1) = z := ⟨_, rfl⟩
        rw [hlf1] at hTi hlW1
        refine goQ [lT i l.length (by omega)] hRl I fun β9 a9 w9 I hb9 => ?_
        refine bslQ (ss := [(0, Sum.inl (Z i))]) I (bs26_1 i w9) ?_
        obtain ⟨K9, I⟩ := I.gs (nw_in [(i : Int)] (by simp) rfl w9) (.slice (some ⟨w9.heap.size, 0, none⟩) 1 1)
        have hc := hTi _ (.slice (some ⟨w9.heap.size, 0, none⟩) 1 1) (I.hJ.at 1 (f := alF (.slice adc l.length capc) (stL h l i)) rfl) (I.hJ.at 0 (f := inF (.slice (some ⟨w9.heap.size, 0, none⟩) 1 1) [(i : Int)]) rfl)
        generalize w9.heap.size = g9 at *
        refine mcall (f := 9) (ss := [Sum.inl (U lf), Sum.inl (.slice adc l.length capc), Sum.inl (.slice (some ⟨g9, 0, none⟩) 1 1)]) Try.func9 I (hc.mono fun e w10 hr => ?_)
        obtain ⟨v3, v4, rfl, hn⟩ := hr
        obtain ⟨K10, I⟩ := I.gs hn (.tuple #[v3, v4, U lf1, Z 0])
        obtain ⟨ad3, cap3, hv3⟩ := (I.hJ.at 0 (f := alF v3 (stL h l (i + 1))) rfl).slice
        obtain ⟨ad4, cap4, hv4⟩ := (I.hJ.at 1 (f := nuF v4 pq) rfl).slice
        rw [stL_len h l (by omega)] at hv3
        rw [hpl2] at hv4
        subst hv3 hv4
        have I := I.chg (J' := GS w w w.heap.size noK K10 ([nuF (.slice ad4 l.length cap4) pq] ++ [alF (.slice ad3 l.length cap3) (stL h l (i + 1)), alF v1 (rsL h l []), nuF (.slice ad2 l.length cap2) (pdL h l [])]) []) (I.hJ.weak fun f hf => by
          simp only [List.mem_append, List.mem_cons, List.not_mem_nil, or_false] at hf
          rcases hf with rfl | rfl | rfl | rfl <;> simp) (fun k h => h)
        obtain ⟨g4, off4, rfl⟩ : ∃ g off, ad4 = some ⟨g, off, none⟩ := by
          obtain ⟨ad', cap', he, hmc⟩ := I.hJ.at 0 (f := nuF (.slice ad4 l.length cap4) pq) rfl
          rw [hpl2] at he
          cases he
          obtain ⟨gc, offc, cs, h1, _⟩ := hmc i _ hp1
          exact ⟨gc, offc, h1⟩
        obtain ⟨g2, off2, rfl⟩ : ∃ g off, ad2 = some ⟨g, off, none⟩ := by
          obtain ⟨ad', cap', he, hmc⟩ := I.hJ.at 3 (f := nuF (.slice ad2 l.length cap2) (pdL h l [])) rfl
          rw [hpl] at he
          cases he
          obtain ⟨gc, offc, cs, h1, _⟩ := hmc i _ hpx
          exact ⟨gc, offc, h1⟩
        have hl4 : ∀ w', GS w w w.heap.size noK K10 ([nuF (.slice (some ⟨g4, off4, none⟩) l.length cap4) pq] ++ [alF (.slice ad3 l.length cap3) (stL h l (i + 1)), alF v1 (rsL h l []), nuF (.slice (some ⟨g2, off2, none⟩) l.length cap2) (pdL h l [])]) [] w' → (loadVar 24 ⟨g4, off4 + i * 4, none⟩).run Try.prog w' = .ok (U sh) w' := fun w' hw => by
          obtain ⟨ad', cap', he, hmc⟩ := hw.at 0 (f := nuF (.slice (some ⟨g4, off4, none⟩) l.length cap4) pq) rfl
          rw [hpl2] at he
          cases he
          obtain ⟨g', off', cs, he2, _, hcc, rfl, _⟩ := hmc i _ hp1
          cases he2
          exact loadNu hcc
        have hl2 : ∀ w', GS w w w.heap.size noK K10 ([nuF (.slice (some ⟨g4, off4, none⟩) l.length cap4) pq] ++ [alF (.slice ad3 l.length cap3) (stL h l (i + 1)), alF v1 (rsL h l []), nuF (.slice (some ⟨g2, off2, none⟩) l.length cap2) (pdL h l [])]) [] w' → (loadVar 24 ⟨g2, off2 + i * 4, none⟩).run Try.prog w' = .ok (U sh) w' := fun w' hw => by
          obtain ⟨ad', cap', he, hmc⟩ := hw.at 3 (f := nuF (.slice (some ⟨g2, off2, none⟩) l.length cap2) (pdL h l [])) rfl
          rw [hpl] at he
          cases he
          obtain ⟨g', off', cs, he2, _, hcc, rfl, _⟩ := hmc i _ hpx
          cases he2
          exact loadNu hcc
        have hRx := GS.rsr w w w.heap.size noK K10 ([nuF (.slice (some ⟨g4, off4, none⟩) l.length cap4) pq] ++ [alF (.slice ad3 l.length cap3) (stL h l (i + 1)), alF v1 (rsL h l []), nuF (.slice (some ⟨g2, off2, none⟩) l.length cap2) (pdL h l [])]) []
        refine goQ [] hRx I fun β11 a11 w11 I hb11 => ?_
        refine dwT (T := GS w w w.heap.size noK K10 ([nuF (.slice (some ⟨g4, off4, none⟩) l.length cap4) pq] ++ [alF (.slice ad3 l.length cap3) (stL h l (i + 1)), alF v1 (rsL h l []), nuF (.slice (some ⟨g2, off2, none⟩) l.length cap2) (pdL h l [])]) []) 20 [bO .neq 30 (run_neE (x := 0) (y := 0) (b := false) rfl), lnU (some ⟨g4, off4, none⟩) l.length cap4, lnU (some ⟨g2, off2, none⟩) l.length cap2, bO .neq 3 (run_neqZ (x := l.length) (y := l.length) (b := false) (decide_eq_false (fun h => h rfl))), ixU g4 off4 l.length cap4 i hil, ldA 24 hl4, ixU g2 off2 l.length cap2 i hil, ldA 24 hl2, bO .neq 24 (neqU_run hshW hshW (b := false) (decide_eq_false (fun h => h rfl)))] hRx (fun _ h => h) (PanOk.then (PanOk.qk PanOk.post)) I fun a12 w12 I => ?_
        refine goQ [] hRx I fun β13 a13 w13 I hb13 => ?_
        refine dwR (T := fun _ => True) 3 2 0 89 lf1 [(1, rU lz), (2, rU lf1)] [] [] (fun _ _ _ => True) (fun _ _ _ _ _ _ => trivial) hRx (fun _ _ => trivial) I (fun q hq => (by cases hq)) fun vs a14 w14 _ I => ?_
        refine goQ [p1 i (by omega)] hRx I fun β15 a15 w15 I hb15 => ?_
        obtain ⟨u', Iu⟩ := I.scr (bodyLk Try.f5 1) (scrF 102 o1K) (o1V (.slice ad3 l.length cap3) v1 (.slice (some ⟨g2, off2, none⟩) l.length cap2) l.length (i + 1)) [(0, rU lf1), (1, rU lz)] 2
        have Iu2 := Iu.chg (J' := GS w w w.heap.size noK K10 [alF (.slice ad3 l.length cap3) (stL h l (i + 1)), alF v1 (rsL h l []), nuF (.slice (some ⟨g2, off2, none⟩) l.length cap2) (pdL h l [])] []) (Iu.hJ.weak fun f hf => List.mem_append_right _ hf) (fun k h => h)
        exact endL ⟨l.length - (i + 1), by omega, i + 1, β15, u', K10, ad3, cap3, rfl, hil, by rw [hlf1, hlz]; exact Iu2⟩
      · obtain rfl : i = l.length := by omega
        obtain rfl : lf = lz := by rw [← hlf, hlz]
        have hend := st_end (h := h) hk
        have hS := fun (w' : World) (hw : GS w w w.heap.size noK K [alF (.slice adc l.length capc) (stL h l l.length), alF v1 (rsL h l []), nuF (.slice ad2 l.length cap2) (pdL h l [])] [] w') => same_any (hw.at 0 (f := alF (.slice adc l.length capc) (stL h l l.length)) rfl) (hw.at 1 (f := alF v1 (rsL h l [])) rfl) (by rw [stL_len h l (Nat.le_refl _)]; omega)
        rw [decide_eq_true hend] at hS
        have hzW : lf < W := by rw [← hlf]; exact hLW _
        refine goQ [lF l.length l.length (by omega)] hRl I fun β9 a9 w9 I hb9 => ?_
        refine endE 2 ?_
        refine goT (T := GS w w w.heap.size noK K [alF (.slice adc l.length capc) (stL h l l.length), alF v1 (rsL h l []), nuF (.slice ad2 l.length cap2) (pdL h l [])] []) [cA Try.func14 hS, bO .eql 24 (eqU_run hzW hzW (b := true) (decide_eq_true rfl)), kC Try.func8 haw] hRl (fun _ h => h) (I.exit _) fun β10 a10 w10 I hb10 => ?_
        exact outQ (v := .bool true) I ⟨rfl, I.hJ.bw⟩
  · rw [decide_eq_false (show ¬ (l.length ≤ 60 ∧ ([] : List Int).length ≤ 100) from fun h => q1 h.1)] at hfw
    refine goT [cA Try.func7 hfw, ntO false, kC Try.func8 haw] hR (fun _ h => h) I fun β1 a1 w1 I hb1 => ?_
    exact outQ (v := .bool true) I ⟨rfl, I.hJ.bw⟩
end Go.Proofs.Ytabghfcjpaileaa
