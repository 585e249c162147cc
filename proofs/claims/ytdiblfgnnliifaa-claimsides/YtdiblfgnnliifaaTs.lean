/- ClaimSides: what binding does, told from outside. -/
import Derived.Test.YtdiblfgnnliifaaTr
namespace Go.Proofs.Ytdiblfgnnliifaa
open Go.RowKit Go.Sort
set_option linter.unusedVariables false
set_option maxRecDepth 100000
theorem al_cells {w : World} {g off n cap : Nat} {L : List Al} (h : AlI w (.slice (some ⟨g, off, none⟩) n cap) L) {i : Nat} {x : Al} (hx : L[i]? = some x) : CellsAt w g (off + i * 8) (al8 x) := by
  obtain ⟨ad, cap', e, hm⟩ := h
  cases e
  obtain ⟨g', off', cs, e', hlt, hca, rfl, _⟩ := hm i x hx
  cases e'
  exact hca
theorem al_addr {w : World} {ad : Option Addr} {n cap : Nat} {L : List Al} (h : AlI w (.slice ad n cap) L) {i : Nat} {x : Al} (hx : L[i]? = some x) : ∃ g off, ad = some ⟨g, off, none⟩ := by
  obtain ⟨ad', cap', e, hm⟩ := h
  cases e
  obtain ⟨g', off', cs, e', _⟩ := hm i x hx
  exact ⟨g', off', e'⟩
theorem bd_at {l : List Al} {ch : ByteArray} {a b ni nj : Nat} (h : bdE l ch.size ni nj a b = 0) : ∃ dx nx kx lx rx dy ny ky ly ry, ni ≠ nj ∧ a ≤ nx ∧ b ≤ ny ∧ a + b < W ∧ l[ni]? = some (dx, nx, kx, lx, rx) ∧ l[nj]? = some (dy, ny, ky, ly, ry) ∧ (bdR l ch ni nj a b)[ni]? = some (dx, nx - a, kx, lx, rx) ∧ (bdR l ch ni nj a b)[nj]? = some (dy, ny - b, ky, ly, ry) ∧ (bdR l ch ni nj a b)[l.length]? = some (ch, a + b, 1, dx, dy) ∧ ∀ k, k < l.length → k ≠ ni → k ≠ nj → (bdR l ch ni nj a b)[k]? = l[k]? := by
  obtain ⟨mi, mj, e1, e2, hi, hj, hne, h32, hki, hkj, ha, hb, hlt, hl8⟩ := bd_ok h
  obtain rfl : ni = mi := by omega
  obtain rfl : nj = mj := by omega
  obtain ⟨x, hx⟩ : ∃ t, l[ni]? = some t := ⟨_, List.getElem?_eq_getElem hi⟩
  obtain ⟨y, hy⟩ : ∃ t, l[nj]? = some t := ⟨_, List.getElem?_eq_getElem hj⟩
  have hm := bdR_is h
  rw [getD_is hx, getD_is hy] at hm
  have hml : (bdM l ni nj a b).length = l.length := by rw [stA_len, stA_len]
  have hlast : (bdR l ch ni nj a b)[l.length]? = some (ch, a + b, 1, x.1, y.1) := by
    rw [hm, ← hml, List.getElem?_append_right (Nat.le_refl _), Nat.sub_self]; rfl
  have hin : ∀ j, j < l.length → (bdR l ch ni nj a b)[j]? = (bdM l ni nj a b)[j]? := fun j hj2 => by rw [hm, List.getElem?_append_left (by rw [hml]; exact hj2)]
  have hat : ∀ j z, l[j]? = some z → (bdR l ch ni nj a b)[j]? = some (z.1, if j = nj then am l nj - b else if j = ni then am l ni - a else z.2.1, z.2.2) := fun j z hz => by
    have hjl := (List.getElem?_eq_some_iff.1 hz).1
    have hne2 : am (stA l ni (am l ni - a)) nj = am l nj := by rw [am_st, if_neg (fun h => hne h.1)]
    rw [hin j hjl, stA_get]
    by_cases e : nj = j
    · rw [if_pos e, if_pos e.symm, stA_other _ _ (by rw [← e]; exact hne), hz]
      rfl
    · rw [if_neg e, if_neg (fun q => e q.symm), stA_get]
      by_cases e' : ni = j
      · rw [if_pos e', if_pos e'.symm, hz]; rfl
      · rw [if_neg e', if_neg (fun q => e' q.symm), hz]
  have h1 := hat ni x hx
  rw [if_neg hne, if_pos rfl, am_is hx] at h1
  have h2 := hat nj y hy
  rw [if_pos rfl, am_is hy] at h2
  rw [am_is hx] at ha
  rw [am_is hy] at hb
  refine ⟨x.1, x.2.1, x.2.2.1, x.2.2.2.1, x.2.2.2.2, y.1, y.2.1, y.2.2.1, y.2.2.2.1, y.2.2.2.2, hne, ha, hb, hlt, hx, hy, h1, h2, hlast, fun k hk q1 q2 => ?_⟩
  obtain ⟨z, hz⟩ : ∃ t, l[k]? = some t := ⟨_, List.getElem?_eq_getElem hk⟩
  rw [hat k z hz, hz, if_neg q2, if_neg q1]
abbrev sdK : List Nat := [0, 2, 3, 13, 15, 127, 128]
abbrev sdV (v u : Value) (i j n t : Nat) : Vs := frm 178 [(0, Sum.inl v), (2, Sum.inl (Z i)), (3, Sum.inl (Z j)), (13, Sum.inl u), (15, Sum.inl (Z n)), (127, Sum.inl (Z n)), (128, Sum.inl (Z t))]
set_option maxHeartbeats 8000000 in
theorem sides_walk {w : World} {v : Value} {l : List Al} {ch : ByteArray} {i j : Int} {a b : Nat} (hv : AlI w v l) (ha : a < W) (hb : b < W) : Calls Try.prog 6 #[v, .string ch, Z i, Z j, U a, U b] w fun e w' => e = .returned (.bool true) ∧ Below w.heap.size w w' := by
  have haw := awake_any
  have hfl := fun (ad : Option Addr) (cap : Nat) (w' : World) => few_any (w := w') ad cap l
  have hL : Lt l := fun x hx => ali_lt hv hx
  obtain ⟨ad, cap, hv0⟩ := hv.slice
  subst hv0
  refine inQ (J := GS w w w.heap.size noK (· < w.heap.size) [alF (.slice ad l.length cap) l] []) (F := GF noK (· < w.heap.size) []) Try.func6 (GS.start w fun f hf => by
    rw [List.mem_singleton.1 hf]; exact hv) fun ac I => ?_
  by_cases q1 : l.length ≤ 60
  case neg =>
    rw [decide_eq_false q1] at hfl
    refine goQ [kC Try.func7 (hfl ad cap), ntO false, kC Try.func8 haw] (GS.rsr _ _ _ _ _ _ _) I fun β1 a1 w1 I hb1 => ?_
    exact outQ (v := .bool true) I ⟨rfl, I.hJ.bw⟩
  rw [decide_eq_true q1] at hfl
  refine goQ [kC Try.func7 (hfl ad cap), ntO true] (GS.rsr _ _ _ _ _ _ _) I fun β1 a1 w1 I hb1 => ?_
  refine mcall (f := 11) (ss := [Sum.inl (.slice ad l.length cap), Sum.inl (.string ch), Sum.inl (Z i), Sum.inl (Z j), Sum.inl (U a), Sum.inl (U b)]) Try.func11 I ((bind_any (I.hJ.al (i := 0) rfl) (by omega) ch i j ha hb).mono fun e w6 he => ?_)
  obtain ⟨v3, rfl, hn⟩ := he
  obtain ⟨K8, I⟩ := I.gs hn (.tuple #[v3, Z (bdE l ch.size i j a b)])
  clear hn
  by_cases z2 : bdE l ch.size i j a b = 0
  case neg =>
    generalize bdE l ch.size i j a b = E2 at *
    refine goQ [bO .neq 28 (run_neE (x := E2) (y := 0) (b := true) (decide_eq_true z2)), kC Try.func8 haw] (GS.rsr _ _ _ _ _ _ _) I fun β1 a1 w1 I hb1 => ?_
    exact outQ (v := .bool true) I ⟨rfl, I.hJ.bw⟩
  have hn2 := bdR_len0 z2
  obtain ⟨ni, nj, rfl, rfl, _⟩ := bd_ok z2
  obtain ⟨dx, nx, kx, lx, rx, dy, ny, ky, ly, ry, hne, hax, hby, hsum, hx, hy, hx2, hy2, hz2, hrest⟩ := bd_at z2
  rw [z2] at I ⊢
  clear z2
  generalize bdR l ch ni nj a b = L2 at *
  obtain ⟨d3, c3, hv3⟩ := (I.hJ.al (i := 0) (v := v3) (l := L2) rfl).slice
  subst hv3
  obtain ⟨ga, off, rfl⟩ := al_addr (I.hJ.al (i := 1) (v := .slice ad l.length cap) (l := l) rfl) hx
  obtain ⟨g3, off3, rfl⟩ := al_addr (I.hJ.al (i := 0) (v := .slice d3 L2.length c3) (l := L2) rfl) hx2
  have hil : ni < l.length := (List.getElem?_eq_some_iff.1 hx).1
  have hjl : nj < l.length := (List.getElem?_eq_some_iff.1 hy).1
  have hxW : nx < W := hL _ (List.mem_of_getElem? hx)
  have hyW : ny < W := hL _ (List.mem_of_getElem? hy)
  have hc1 : ∀ {i : Nat} {x : Al}, l[i]? = some x → ∀ w', (GS w w w.heap.size noK K8 ([alF (.slice (some ⟨g3, off3, none⟩) L2.length c3) L2] ++ [alF (.slice (some ⟨ga, off, none⟩) l.length cap) l]) []) w' → CellsAt w' ga (off + i * 8) (al8 x) := fun hx w' hw => al_cells (hw.al (i := 1) (v := .slice (some ⟨ga, off, none⟩) l.length cap) (l := l) rfl) hx
  have hc2 : ∀ {i : Nat} {x : Al}, L2[i]? = some x → ∀ w', (GS w w w.heap.size noK K8 ([alF (.slice (some ⟨g3, off3, none⟩) L2.length c3) L2] ++ [alF (.slice (some ⟨ga, off, none⟩) l.length cap) l]) []) w' → CellsAt w' g3 (off3 + i * 8) (al8 x) := fun hx w' hw => al_cells (hw.al (i := 0) (v := .slice (some ⟨g3, off3, none⟩) L2.length c3) (l := L2) rfl) hx
  have hs1 := subT rsub_any hxW ha (decide_eq_false (Nat.not_lt.2 hax))
  have hs2 := subT rsub_any hyW hb (decide_eq_false (Nat.not_lt.2 hby))
  have hs3 := addT radd_any ha hb (decide_eq_false (Nat.not_le.2 hsum))
  rw [sub_mod hxW hax] at hs1
  rw [sub_mod hyW hby] at hs2
  rw [Nat.mod_eq_of_lt hsum] at hs3
  have hW1 : nx - a < W := by omega
  have hW2 : ny - b < W := by omega
  generalize nx - a = n1 at *
  generalize ny - b = n2 at *
  generalize a + b = n3 at *
  refine goQ [bO .neq 28 (run_neE (x := 0) (y := 0) (b := false) rfl), lnA (some ⟨ga, off, none⟩) l.length cap] (GS.rsr _ _ _ _ _ _ _) I fun β9 a9 w9 I hb9 => ?_
  refine dwA (T := GS w w w.heap.size noK K8 ([alF (.slice (some ⟨g3, off3, none⟩) L2.length c3) L2] ++ [alF (.slice (some ⟨ga, off, none⟩) l.length cap) l]) []) 10 11 16 50 n1 [ixA ga off l.length cap ni hil, ldA 25 (fun w' h => loadU (hc1 hx w' h)), kC Try.func15 hs1] (GS.rsr _ _ _ _ _ _ _) (fun _ h => h) I fun b2 vs2 β2 a2 w2 hb2 I => ?_
  refine goQ [] (GS.rsr _ _ _ _ _ _ _) I fun β3 a3 w3 I hb3 => ?_
  refine dwA (T := GS w w w.heap.size noK K8 ([alF (.slice (some ⟨g3, off3, none⟩) L2.length c3) L2] ++ [alF (.slice (some ⟨ga, off, none⟩) l.length cap) l]) []) 10 11 18 60 n2 [ixA ga off l.length cap nj hjl, ldA 25 (fun w' h => loadU (hc1 hy w' h)), kC Try.func15 hs2] (GS.rsr _ _ _ _ _ _ _) (fun _ h => h) I fun b4 vs4 β4 a4 w4 hb4 I => ?_
  refine goQ [kC Try.func16 hs3] (GS.rsr _ _ _ _ _ _ _) I fun β5 a5 w5 I hb5 => ?_
  refine dwT (T := GS w w w.heap.size noK K8 ([alF (.slice (some ⟨g3, off3, none⟩) L2.length c3) L2] ++ [alF (.slice (some ⟨ga, off, none⟩) l.length cap) l]) []) 58 [lnA (some ⟨g3, off3, none⟩) L2.length c3, bO .add 3 (run_addZ (x := l.length) (y := 1) (z := L2.length) (by rw [wz (by omega) (by omega)]; omega)), bO .neq 3 (run_neqZ (x := L2.length) (y := L2.length) (b := false) (decide_eq_false (fun h => h rfl))),
    ixA g3 off3 L2.length c3 ni (by omega), ldA 25 (fun w' h => loadU (hc2 hx2 w' h)), bO .neq 25 (neqU_run (n := n1) (m := n1) hW1 hW1 (b := false) (decide_eq_false (fun h => h rfl))),
    ixA g3 off3 L2.length c3 nj (by omega), ldA 25 (fun w' h => loadU (hc2 hy2 w' h)), bO .neq 25 (neqU_run (n := n2) (m := n2) hW2 hW2 (b := false) (decide_eq_false (fun h => h rfl))),
    ixA g3 off3 L2.length c3 l.length (by omega), ldA 25 (fun w' h => loadU (hc2 hz2 w' h)), bO .neq 25 (neqU_run (n := n3) (m := n3) hsum hsum (b := false) (decide_eq_false (fun h => h rfl))),
    ixA g3 off3 L2.length c3 l.length (by omega), ldA 9 (fun w' h => loadD (hc2 hz2 w' h)), bO .neq 9 (neqT_run (a := ch) (b := ch) (q := false) (decide_eq_false (fun h => h rfl))),
    ixA g3 off3 L2.length c3 l.length (by omega), ldA 3 (fun w' h => loadK (hc2 hz2 w' h)), bO .neq 3 (run_neqZ (x := 1) (y := 1) (b := false) (decide_eq_false (fun h => h rfl)))] (GS.rsr _ _ _ _ _ _ _) (fun _ h => h) PanOk.post I fun a6 w6 I => ?_
  refine goQ [lnA (some ⟨ga, off, none⟩) l.length cap] (GS.rsr _ _ _ _ _ _ _) I fun β7 a7 w7 I hb7 => ?_
  refine lpM (bodyL Try.f6) (fun k a' w' => ∃ (t : Nat) (β : Nat → Nat) (u : Nat → Value), k = l.length - t ∧ t ≤ l.length ∧ SI (GS w w w.heap.size noK K8 ([alF (.slice (some ⟨g3, off3, none⟩) L2.length c3) L2] ++ [alF (.slice (some ⟨ga, off, none⟩) l.length cap) l]) []) (GF noK K8 []) [] β (cfC (bodyL Try.f6) (fillF (scrF 178 sdK) u 0 (sdV (.slice (some ⟨ga, off, none⟩) l.length cap) (.slice (some ⟨g3, off3, none⟩) L2.length c3) ni nj l.length t)) [(0, rU a), (1, rU b), (2, rU n1), (3, rU n2), (4, rU n3)] 5) a' w') l.length ?_ ?_
  · obtain ⟨u, Iu⟩ := I.scr (bodyL Try.f6) (scrF 178 sdK) (sdV (.slice (some ⟨ga, off, none⟩) l.length cap) (.slice (some ⟨g3, off3, none⟩) L2.length c3) ni nj l.length 0) [(0, rU a), (1, rU b), (2, rU n1), (3, rU n2), (4, rU n3)] 5
    exact ⟨0, β7, u, rfl, Nat.zero_le _, Iu⟩
  rintro k a11 w11 ⟨t, β11, u11, rfl, ht, I⟩
  refine wp_cfC (tm := fillF (scrF 178 sdK) u11 0 (sdV (.slice (some ⟨ga, off, none⟩) l.length cap) (.slice (some ⟨g3, off3, none⟩) L2.length c3) ni nj l.length t)) (rows := [(0, rU a), (1, rU b), (2, rU n1), (3, rU n2), (4, rU n3)]) (nx := 5) ?_
  rcases Nat.lt_or_ge t l.length with htl | htl
  · have next : ∀ {β' : Nat → Nat} {a' : Act} {w' : World} (u' : Nat → Value), SI (GS w w w.heap.size noK K8 ([alF (.slice (some ⟨g3, off3, none⟩) L2.length c3) L2] ++ [alF (.slice (some ⟨ga, off, none⟩) l.length cap) l]) []) (GF noK K8 []) [] β' (cfC (bodyL Try.f6) (fillF (scrF 178 sdK) u' 0 (sdV (.slice (some ⟨ga, off, none⟩) l.length cap) (.slice (some ⟨g3, off3, none⟩) L2.length c3) ni nj l.length (t + 1))) [(0, rU a), (1, rU b), (2, rU n1), (3, rU n2), (4, rU n3)] 5) a' w' → ∃ j, j < l.length - t ∧ ∃ (t : Nat) (β : Nat → Nat) (u : Nat → Value), j = l.length - t ∧ t ≤ l.length ∧ SI (GS w w w.heap.size noK K8 ([alF (.slice (some ⟨g3, off3, none⟩) L2.length c3) L2] ++ [alF (.slice (some ⟨ga, off, none⟩) l.length cap) l]) []) (GF noK K8 []) [] β (cfC (bodyL Try.f6) (fillF (scrF 178 sdK) u 0 (sdV (.slice (some ⟨ga, off, none⟩) l.length cap) (.slice (some ⟨g3, off3, none⟩) L2.length c3) ni nj l.length t)) [(0, rU a), (1, rU b), (2, rU n1), (3, rU n2), (4, rU n3)] 5) a' w' := fun u' Iu => ⟨l.length - (t + 1), by omega, t + 1, _, u', rfl, htl, Iu⟩
    refine goQ [lT t l.length (by omega)] (GS.rsr _ _ _ _ _ _ _) I fun β12 a12 w12 I hb12 => ?_
    by_cases e1 : t = ni
    · refine dwT (T := GS w w w.heap.size noK K8 ([alF (.slice (some ⟨g3, off3, none⟩) L2.length c3) L2] ++ [alF (.slice (some ⟨ga, off, none⟩) l.length cap) l]) []) 19 [bO .neq 3 (run_neqZ (x := t) (y := ni) (b := false) (decide_eq_false (by omega)))] (GS.rsr _ _ _ _ _ _ _) (fun _ h => h) (PanOk.then (PanOk.qk PanOk.post)) I fun a15 w15 I => ?_
      refine goQ [p1 t (by omega)] (GS.rsr _ _ _ _ _ _ _) I fun β16 a16 w16 I hb16 => ?_
      obtain ⟨u', Iu⟩ := I.scr (bodyL Try.f6) (scrF 178 sdK) (sdV (.slice (some ⟨ga, off, none⟩) l.length cap) (.slice (some ⟨g3, off3, none⟩) L2.length c3) ni nj l.length (t + 1)) [(0, rU a), (1, rU b), (2, rU n1), (3, rU n2), (4, rU n3)] 5
      exact endL (next u' Iu)
    by_cases e2 : t = nj
    · refine dwT (T := GS w w w.heap.size noK K8 ([alF (.slice (some ⟨g3, off3, none⟩) L2.length c3) L2] ++ [alF (.slice (some ⟨ga, off, none⟩) l.length cap) l]) []) 19 [bO .neq 3 (run_neqZ (x := t) (y := ni) (b := true) (decide_eq_true (by omega))), bO .neq 3 (run_neqZ (x := t) (y := nj) (b := false) (decide_eq_false (by omega)))] (GS.rsr _ _ _ _ _ _ _) (fun _ h => h) (PanOk.then (PanOk.qk PanOk.post)) I fun a15 w15 I => ?_
      refine goQ [p1 t (by omega)] (GS.rsr _ _ _ _ _ _ _) I fun β16 a16 w16 I hb16 => ?_
      obtain ⟨u', Iu⟩ := I.scr (bodyL Try.f6) (scrF 178 sdK) (sdV (.slice (some ⟨ga, off, none⟩) l.length cap) (.slice (some ⟨g3, off3, none⟩) L2.length c3) ni nj l.length (t + 1)) [(0, rU a), (1, rU b), (2, rU n1), (3, rU n2), (4, rU n3)] 5
      exact endL (next u' Iu)
    obtain ⟨z, hz⟩ : ∃ y, l[t]? = some y := ⟨_, List.getElem?_eq_getElem htl⟩
    have hzz : L2[t]? = some z := by rw [hrest t htl e1 e2]; exact hz
    have hzW : z.2.1 < W := hL _ (List.mem_of_getElem? hz)
    refine dwT (T := GS w w w.heap.size noK K8 ([alF (.slice (some ⟨g3, off3, none⟩) L2.length c3) L2] ++ [alF (.slice (some ⟨ga, off, none⟩) l.length cap) l]) []) 19 [bO .neq 3 (run_neqZ (x := t) (y := ni) (b := true) (decide_eq_true (by omega))), bO .neq 3 (run_neqZ (x := t) (y := nj) (b := true) (decide_eq_true (by omega))), ixA g3 off3 L2.length c3 t (by omega), ldA 39 (fun w' h => loadAl (hc2 hzz w' h)), ixA ga off l.length cap t htl, ldA 39 (fun w' h => loadAl (hc1 hz w' h)), bO .neq 39 (neqAl_run (x := z) (y := z) hzW hzW (q := false) (decide_eq_false (fun h => h rfl)))] (GS.rsr _ _ _ _ _ _ _) (fun _ h => h) (PanOk.then (PanOk.qk PanOk.post)) I fun a15 w15 I => ?_
    refine goQ [p1 t (by omega)] (GS.rsr _ _ _ _ _ _ _) I fun β16 a16 w16 I hb16 => ?_
    obtain ⟨u', Iu⟩ := I.scr (bodyL Try.f6) (scrF 178 sdK) (sdV (.slice (some ⟨ga, off, none⟩) l.length cap) (.slice (some ⟨g3, off3, none⟩) L2.length c3) ni nj l.length (t + 1)) [(0, rU a), (1, rU b), (2, rU n1), (3, rU n2), (4, rU n3)] 5
    exact endL (next u' Iu)
  · obtain rfl : t = l.length := by omega
    refine goQ [lF l.length l.length (by omega)] (GS.rsr _ _ _ _ _ _ _) I fun β12 a12 w12 I hb12 => ?_
    refine endE 0 ?_
    refine goQ [] (GS.rsr _ _ _ _ _ _ _) (I.exit _) fun β13 a13 w13 I hb13 => ?_
    refine dwT (T := GS w w w.heap.size noK K8 ([alF (.slice (some ⟨g3, off3, none⟩) L2.length c3) L2] ++ [alF (.slice (some ⟨ga, off, none⟩) l.length cap) l]) []) 28 [ixA g3 off3 L2.length c3 l.length (by omega), ldA 9 (fun w' h => loadL (hc2 hz2 w' h)), ixA ga off l.length cap ni hil, ldA 9 (fun w' h => loadD (hc1 hx w' h)), bO .eql 9 (eqT_run (a := dx) (b := dx) (q := true) (decide_eq_true rfl)), ixA g3 off3 L2.length c3 l.length (by omega), ldA 9 (fun w' h => loadR (hc2 hz2 w' h)), ixA ga off l.length cap nj hjl, ldA 9 (fun w' h => loadD (hc1 hy w' h)), bO .eql 9 (eqT_run (a := dy) (b := dy) (q := true) (decide_eq_true rfl)), kC Try.func8 haw] (GS.rsr _ _ _ _ _ _ _) (fun _ h => h) PanOk.post I fun a14 w14 I => ?_
    refine goQ [] (GS.rsr _ _ _ _ _ _ _) I fun β15 a15 w15 I hb15 => ?_
    exact outQ (v := .bool true) I ⟨rfl, I.hJ.bw⟩
end Go.Proofs.Ytdiblfgnnliifaa
