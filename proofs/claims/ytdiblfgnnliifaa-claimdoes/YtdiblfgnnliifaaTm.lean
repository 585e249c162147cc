/- The document's Bind. -/
import Derived.Test.YtdiblfgnnliifaaTl
namespace Go.Proofs.Ytdiblfgnnliifaa
open Go.RowKit Go.Sort
set_option linter.unusedVariables false
set_option maxRecDepth 100000
theorem bdE_none {l : List Al} {ch : ByteArray} {i j : Int} {a b : Nat} (h : bdE l ch.size i j a b ≠ 0) : bdR l ch i j a b = l := by unfold bdR; rw [if_pos h]
set_option maxHeartbeats 8000000 in
theorem rbind_any {w : World} {v : Value} {l : List Al} (hv : AlI w v l) (hl : l.length ≤ 1000) (ch : ByteArray) (i j : Int) {a b : Nat} (ha : a < W) (hb : b < W) :
    Calls Try.prog 12 #[v, .string ch, Z i, Z j, U a, U b] w fun e w' => ∃ v', e = .returned (.tuple #[v', Z (bdE l ch.size i j a b)]) ∧ OrN w v l v' (bdR l ch i j a b) w' := by
  have hL : Lt l := fun x hx => ali_lt hv hx
  have hpi := fun (ad : Option Addr) (cap : Nat) (w' : World) => place_raw 26 (.inl rfl) (w := w') ad cap l i
  have hpj := fun (ad : Option Addr) (cap : Nat) (w' : World) => place_raw 26 (.inl rfl) (w := w') ad cap l j
  obtain ⟨ad, cap, hv0⟩ := hv.slice
  subst hv0
  refine inQ (J := GS w w w.heap.size noK (· < w.heap.size) [alF (.slice ad l.length cap) l] []) (F := GF noK (· < w.heap.size) []) Try.func12 (GS.start w fun f hf => by
    rw [List.mem_singleton.1 hf]; exact hv) fun ac I => ?_
  cases hPi : isP l i with
  | false =>
    rw [hPi] at hpi
    have eE : bdE l ch.size i j a b = 3 := by unfold bdE; rw [if_pos (.inl hPi)]
    rw [bdE_none (by rw [eE]; decide), eE]
    refine goQ [kC Try.func26 (hpi ad cap), ntO false] (GS.rsr _ _ _ _ _ _ _) I fun β1 a1 w1 I hb1 => ?_
    exact outQ (v := .tuple #[.slice ad l.length cap, Z 3]) I ⟨_, rfl, .inl ⟨rfl, rfl, I.hJ.bw⟩⟩
  | true =>
  rw [hPi] at hpi
  cases hPj : isP l j with
  | false =>
    rw [hPj] at hpj
    have eE : bdE l ch.size i j a b = 3 := by unfold bdE; rw [if_pos (.inr (.inl hPj))]
    rw [bdE_none (by rw [eE]; decide), eE]
    refine goQ [kC Try.func26 (hpi ad cap), ntO true, kC Try.func26 (hpj ad cap), ntO false] (GS.rsr _ _ _ _ _ _ _) I fun β1 a1 w1 I hb1 => ?_
    exact outQ (v := .tuple #[.slice ad l.length cap, Z 3]) I ⟨_, rfl, .inl ⟨rfl, rfl, I.hJ.bw⟩⟩
  | true =>
  rw [hPj] at hpj
  by_cases hij : i = j
  · have eE : bdE l ch.size i j a b = 3 := by unfold bdE; rw [if_pos (.inr (.inr hij))]
    rw [bdE_none (by rw [eE]; decide), eE]
    refine goQ [kC Try.func26 (hpi ad cap), ntO true, kC Try.func26 (hpj ad cap), ntO true, bO .eql 3 (run_eqlZ (x := i) (y := j) (b := true) (decide_eq_true hij))] (GS.rsr _ _ _ _ _ _ _) I fun β1 a1 w1 I hb1 => ?_
    exact outQ (v := .tuple #[.slice ad l.length cap, Z 3]) I ⟨_, rfl, .inl ⟨rfl, rfl, I.hJ.bw⟩⟩
  by_cases h32 : ch.size = 32
  case neg =>
    have eE : bdE l ch.size i j a b = 2 := by unfold bdE; rw [if_neg (fun h => h.elim (fun h => by rw [hPi] at h; cases h) fun h => h.elim (fun h => by rw [hPj] at h; cases h) fun h => hij h), if_pos (.inl h32)]
    rw [bdE_none (by rw [eE]; decide), eE]
    refine goQ [kC Try.func26 (hpi ad cap), ntO true, kC Try.func26 (hpj ad cap), ntO true, bO .eql 3 (run_eqlZ (x := i) (y := j) (b := false) (decide_eq_false hij)), lO Try.underlying9 (b := ch) (n := ch.size) rfl, bO .neq 3 (run_neqZ (x := ch.size) (y := 32) (b := true) (decide_eq_true (by omega)))] (GS.rsr _ _ _ _ _ _ _) I fun β1 a1 w1 I hb1 => ?_
    exact outQ (v := .tuple #[.slice ad l.length cap, Z 2]) I ⟨_, rfl, .inl ⟨rfl, rfl, I.hJ.bw⟩⟩
  obtain ⟨ni, rfl, hil⟩ := isP_nat hPi
  obtain ⟨nj, rfl, hjl⟩ := isP_nat hPj
  obtain ⟨x, hx⟩ : ∃ t, l[ni]? = some t := ⟨_, List.getElem?_eq_getElem hil⟩
  obtain ⟨y, hy⟩ : ∃ t, l[nj]? = some t := ⟨_, List.getElem?_eq_getElem hjl⟩
  obtain ⟨ad', cap', he, hm⟩ := id hv
  cases he
  obtain ⟨ga, off, cs, rfl, hlt2, hca, rfl, hxW⟩ := hm ni x hx
  obtain ⟨ga2, off2, cs2, he2, hlt3, hcb, rfl, hyW⟩ := hm nj y hy
  cases he2
  have kdi : kdP l ni = npP x := by unfold kdP; rw [Int.toNat_natCast, getD_is hx]
  have kdj : kdP l nj = npP y := by unfold kdP; rw [Int.toNat_natCast, getD_is hy]
  have ami : am l ni = x.2.1 := am_is hx
  have amj : am l nj = y.2.1 := am_is hy
  have hk1 : ∀ w', GS w w w.heap.size noK (· < w.heap.size) [alF (.slice (some ⟨ga, off, none⟩) l.length cap) l] [] w' → (loadVar 3 ⟨ga, off + ni * 8 + 5, none⟩).run Try.prog w' = .ok (Z x.2.2.1) w' := fun w' h => loadK (hca.keep (h.bw.block ga hlt2))
  have hk2 : ∀ w', GS w w w.heap.size noK (· < w.heap.size) [alF (.slice (some ⟨ga, off, none⟩) l.length cap) l] [] w' → (loadVar 3 ⟨ga, off + nj * 8 + 5, none⟩).run Try.prog w' = .ok (Z y.2.2.1) w' := fun w' h => loadK (hcb.keep (h.bw.block ga hlt2))
  have ha1 : ∀ w', Below w.heap.size w w' → (loadVar 25 ⟨ga, off + ni * 8 + 1, none⟩).run Try.prog w' = .ok (U x.2.1) w' := fun w' h => loadU (hca.keep (h.block ga hlt2))
  have ha2 : ∀ w', Below w.heap.size w w' → (loadVar 25 ⟨ga, off + nj * 8 + 1, none⟩).run Try.prog w' = .ok (U y.2.1) w' := fun w' h => loadU (hcb.keep (h.block ga hlt2))
  have hd1 : ∀ w', Below w.heap.size w w' → (loadVar 9 ⟨ga, off + ni * 8 + 0, none⟩).run Try.prog w' = .ok (.string x.1) w' := fun w' h => loadD (hca.keep (h.block ga hlt2))
  have hd2 : ∀ w', Below w.heap.size w w' → (loadVar 9 ⟨ga, off + nj * 8 + 0, none⟩).run Try.prog w' = .ok (.string y.1) w' := fun w' h => loadD (hcb.keep (h.block ga hlt2))
  have gdi : l.getD ni aD = x := getD_is hx
  have gdj : l.getD nj aD = y := getD_is hy
  by_cases q0 : x.2.2.1 = 0
  case neg =>
    have eE : bdE l ch.size ni nj a b = 2 := by unfold bdE; rw [if_neg (fun h => h.elim (fun h => by rw [hPi] at h; cases h) fun h => h.elim (fun h => by rw [hPj] at h; cases h) fun h => hij h), if_pos (.inr (.inl (by rw [kdi]; exact decide_eq_true q0)))]
    rw [bdE_none (by rw [eE]; decide), eE]
    refine goT (T := GS w w w.heap.size noK (· < w.heap.size) [alF (.slice (some ⟨ga, off, none⟩) l.length cap) l] []) [kC Try.func26 (hpi (some ⟨ga, off, none⟩) cap), ntO true, kC Try.func26 (hpj (some ⟨ga, off, none⟩) cap), ntO true, bO .eql 3 (run_eqlZ (x := ni) (y := nj) (b := false) (decide_eq_false hij)), lO Try.underlying9 (b := ch) (n := ch.size) rfl, bO .neq 3 (run_neqZ (x := ch.size) (y := 32) (b := false) (decide_eq_false (by omega))), ixA ga off l.length cap ni hil, ldA 3 hk1, bO .neq 3 (run_neqZ (x := x.2.2.1) (y := 0) (b := true) (decide_eq_true q0))] (GS.rsr _ _ _ _ _ _ _) (fun _ h => h) I fun β1 a1 w1 I hb1 => ?_
    exact outQ (v := .tuple #[.slice (some ⟨ga, off, none⟩) l.length cap, Z 2]) I ⟨_, rfl, .inl ⟨rfl, rfl, I.hJ.bw⟩⟩
  by_cases q1 : y.2.2.1 = 0
  case neg =>
    have eE : bdE l ch.size ni nj a b = 2 := by unfold bdE; rw [if_neg (fun h => h.elim (fun h => by rw [hPi] at h; cases h) fun h => h.elim (fun h => by rw [hPj] at h; cases h) fun h => hij h), if_pos (.inr (.inr (by rw [kdj]; exact decide_eq_true q1)))]
    rw [bdE_none (by rw [eE]; decide), eE]
    refine goT (T := GS w w w.heap.size noK (· < w.heap.size) [alF (.slice (some ⟨ga, off, none⟩) l.length cap) l] []) [kC Try.func26 (hpi (some ⟨ga, off, none⟩) cap), ntO true, kC Try.func26 (hpj (some ⟨ga, off, none⟩) cap), ntO true, bO .eql 3 (run_eqlZ (x := ni) (y := nj) (b := false) (decide_eq_false hij)), lO Try.underlying9 (b := ch) (n := ch.size) rfl, bO .neq 3 (run_neqZ (x := ch.size) (y := 32) (b := false) (decide_eq_false (by omega))), ixA ga off l.length cap ni hil, ldA 3 hk1, bO .neq 3 (run_neqZ (x := x.2.2.1) (y := 0) (b := false) (decide_eq_false (not_not_intro q0))), ixA ga off l.length cap nj hjl, ldA 3 hk2, bO .neq 3 (run_neqZ (x := y.2.2.1) (y := 0) (b := true) (decide_eq_true q1))] (GS.rsr _ _ _ _ _ _ _) (fun _ h => h) I fun β1 a1 w1 I hb1 => ?_
    exact outQ (v := .tuple #[.slice (some ⟨ga, off, none⟩) l.length cap, Z 2]) I ⟨_, rfl, .inl ⟨rfl, rfl, I.hJ.bw⟩⟩
  have hE0 : bdE l ch.size ni nj a b = if am l ni < a ∨ am l nj < b then 16 else if W ≤ a + b then 7 else if 8 ≤ l.length then 8 else 0 := by
    unfold bdE
    rw [if_neg (fun h => h.elim (fun h => by rw [hPi] at h; cases h) fun h => h.elim (fun h => by rw [hPj] at h; cases h) fun h => hij h), if_neg (fun h => h.elim (fun h => h h32) fun h => h.elim (fun h => by rw [kdi] at h; exact of_decide_eq_true h q0) fun h => by rw [kdj] at h; exact of_decide_eq_true h q1), Int.toNat_natCast, Int.toNat_natCast]
  obtain ⟨u1, hu1⟩ : ∃ t, decide (x.2.1 < a) = t := ⟨_, rfl⟩
  obtain ⟨u2, hu2⟩ : ∃ t, decide (y.2.1 < b) = t := ⟨_, rfl⟩
  have hs1 := subT rsub_any hxW ha hu1
  have hs2 := subT rsub_any hyW hb hu2
  have hm1 : ¬ x.2.1 < a → (x.2.1 + W - a) % W = x.2.1 - a := fun h => sub_mod hxW (by omega)
  have hm2 : ¬ y.2.1 < b → (y.2.1 + W - b) % W = y.2.1 - b := fun h => sub_mod hyW (by omega)
  rw [ami, amj] at hE0
  generalize hxa : x.2.1 = xa at *
  generalize hya : y.2.1 = ya at *
  obtain ⟨n1, hn1⟩ : ∃ t, (xa + W - a) % W = t := ⟨_, rfl⟩
  obtain ⟨n2, hn2⟩ : ∃ t, (ya + W - b) % W = t := ⟨_, rfl⟩
  rw [hn1] at hs1 hm1
  rw [hn2] at hs2 hm2
  refine goT (T := GS w w w.heap.size noK (· < w.heap.size) [alF (.slice (some ⟨ga, off, none⟩) l.length cap) l] []) [kC Try.func26 (hpi (some ⟨ga, off, none⟩) cap), ntO true, kC Try.func26 (hpj (some ⟨ga, off, none⟩) cap), ntO true, bO .eql 3 (run_eqlZ (x := ni) (y := nj) (b := false) (decide_eq_false hij)), lO Try.underlying9 (b := ch) (n := ch.size) rfl, bO .neq 3 (run_neqZ (x := ch.size) (y := 32) (b := false) (decide_eq_false (by omega))), ixA ga off l.length cap ni hil, ldA 3 hk1, bO .neq 3 (run_neqZ (x := x.2.2.1) (y := 0) (b := false) (decide_eq_false (not_not_intro q0))), ixA ga off l.length cap nj hjl, ldA 3 hk2, bO .neq 3 (run_neqZ (x := y.2.2.1) (y := 0) (b := false) (decide_eq_false (not_not_intro q1)))] (GS.rsr _ _ _ _ _ _ _) (fun _ h => h) I fun β1 a1 w1 I hb1 => ?_
  refine dwA (T := GS w w w.heap.size noK (· < w.heap.size) [alF (.slice (some ⟨ga, off, none⟩) l.length cap) l] []) 10 11 14 65 n1 [ixA ga off l.length cap ni hil, ldA 25 (fun w' h => ha1 w' h.bw), kC Try.func15 hs1] (GS.rsr _ _ _ _ _ _ _) (fun _ h => h) I fun b2 vs2 β2 a2 w2 hb2 I => ?_
  refine goQ [] (GS.rsr _ _ _ _ _ _ _) I fun β3 a3 w3 I hb3 => ?_
  refine dwA (T := GS w w w.heap.size noK (· < w.heap.size) [alF (.slice (some ⟨ga, off, none⟩) l.length cap) l] []) 10 11 16 75 n2 [ixA ga off l.length cap nj hjl, ldA 25 (fun w' h => ha2 w' h.bw), kC Try.func15 hs2] (GS.rsr _ _ _ _ _ _ _) (fun _ h => h) I fun b4 vs4 β4 a4 w4 hb4 I => ?_
  by_cases v1 : xa < a ∨ ya < b
  · rw [if_pos v1] at hE0
    rw [bdE_none (by rw [hE0]; decide), hE0]
    cases u1 with
    | true =>
      refine goQ [] (GS.rsr _ _ _ _ _ _ _) I fun β5 a5 w5 I hb5 => ?_
      exact outQ (v := .tuple #[.slice (some ⟨ga, off, none⟩) l.length cap, Z 16]) I ⟨_, rfl, .inl ⟨rfl, rfl, I.hJ.bw⟩⟩
    | false =>
      have hu2' : u2 = true := by
        rw [← hu2]
        exact decide_eq_true (v1.resolve_left (of_decide_eq_false hu1))
      subst hu2'
      refine goQ [] (GS.rsr _ _ _ _ _ _ _) I fun β5 a5 w5 I hb5 => ?_
      exact outQ (v := .tuple #[.slice (some ⟨ga, off, none⟩) l.length cap, Z 16]) I ⟨_, rfl, .inl ⟨rfl, rfl, I.hJ.bw⟩⟩
  rw [if_neg v1] at hE0
  have v2 : ¬ xa < a := fun h => v1 (.inl h)
  have v3 : ¬ ya < b := fun h => v1 (.inr h)
  rw [decide_eq_false v2] at hu1
  rw [decide_eq_false v3] at hu2
  subst hu1 hu2
  have hm1 := hm1 v2
  have hm2 := hm2 v3
  obtain ⟨qo, hqo⟩ : ∃ q, decide (W ≤ a + b) = q := ⟨_, rfl⟩
  have hadd := addT radd_any ha hb hqo
  obtain ⟨s5, hs5⟩ : ∃ t, (a + b) % W = t := ⟨_, rfl⟩
  rw [hs5] at hadd
  cases qo with
  | true =>
    rw [if_pos (of_decide_eq_true hqo)] at hE0
    rw [bdE_none (by rw [hE0]; decide), hE0]
    refine goQ [kC Try.func16 hadd] (GS.rsr _ _ _ _ _ _ _) I fun β5 a5 w5 I hb5 => ?_
    exact outQ (v := .tuple #[.slice (some ⟨ga, off, none⟩) l.length cap, Z 7]) I ⟨_, rfl, .inl ⟨rfl, rfl, I.hJ.bw⟩⟩
  | false =>
  have hlt : a + b < W := by have := of_decide_eq_false hqo; omega
  rw [if_neg (of_decide_eq_false hqo)] at hE0
  rw [Nat.mod_eq_of_lt hlt] at hs5
  by_cases h8 : 8 ≤ l.length
  · rw [if_pos h8] at hE0
    rw [bdE_none (by rw [hE0]; decide), hE0]
    refine goQ [kC Try.func16 hadd, lnA (some ⟨ga, off, none⟩) l.length cap, bO .geq 3 (run_geqZ (x := l.length) (y := 8) (b := true) (decide_eq_true (by omega)))] (GS.rsr _ _ _ _ _ _ _) I fun β5 a5 w5 I hb5 => ?_
    exact outQ (v := .tuple #[.slice (some ⟨ga, off, none⟩) l.length cap, Z 8]) I ⟨_, rfl, .inl ⟨rfl, rfl, I.hJ.bw⟩⟩
  rw [if_neg h8] at hE0
  have hR : bdR l ch ni nj a b = stA (stA l ni n1) nj n2 ++ [(ch, s5, 1, x.1, y.1)] := by
    unfold bdR
    rw [if_neg (fun h => h hE0), Int.toNat_natCast, Int.toNat_natCast]
    unfold bdL
    rw [ami, amj, gdi, gdj, ← hs5, hm1, hm2]
  rw [hE0, hR]
  refine goQ [kC Try.func16 hadd, lnA (some ⟨ga, off, none⟩) l.length cap, bO .geq 3 (run_geqZ (x := l.length) (y := 8) (b := false) (decide_eq_false (by omega)))] (GS.rsr _ _ _ _ _ _ _) I fun β5 a5 w5 I hb5 => ?_
  refine appL (ad := none) (cap := 0) (c2 := cap) (m := []) (l2 := l) (n1 := 0) (n2 := l.length) (I.nil 39 8) rfl rfl (fun h0 => by
    obtain ⟨a2, e, hc⟩ := ali_cells (I.hJ.al (i := 0) rfl) h0
    exact ⟨a2, e, hc _ (Below.refl _ _)⟩) (by omega) fun ad6 cap6 a6 w6 I => ?_
  rw [Nat.zero_add] at I ⊢
  rw [List.nil_append] at I
  obtain ⟨go, hgo⟩ := I.hJ.blk' (by omega)
  subst hgo
  have hx2 : (stA l ni n1)[nj]? = (stA l ni n1)[nj]? := rfl
  refine goQ [ixA go 0 l.length cap6 ni hil] (GS.rsr _ _ _ _ _ _ _) I fun β7 a7 w7 I hb7 => ?_
  refine stO' (i := ni) (n := n1) rfl hil I fun w8 I => ?_
  refine goQ [ixA go 0 l.length cap6 nj hjl] (GS.rsr _ _ _ _ _ _ _) I fun β9 a9 w9 I hb9 => ?_
  refine stO' (i := nj) (n := n2) (stA_len _ _ _) (by rw [stA_len]; exact hjl) I fun w10 I => ?_
  refine goQ [] (GS.rsr _ _ _ _ _ _ _) I fun β11 a11 w11 I hb11 => ?_
  refine dwT (T := GS w w w.heap.size noK (· < w.heap.size) [alF (.slice (some ⟨ga, off, none⟩) l.length cap) l] [alO (.slice (some ⟨go, 0, none⟩) l.length cap6) (stA (stA l ni n1) nj n2)]) 14 [ixA ga off l.length cap ni hil, ldA 9 (fun w' h => hd1 w' h.bw), ixA ga off l.length cap nj hjl, ldA 9 (fun w' h => hd2 w' h.bw), dO 39 [0, 1, 2, 3, 4] (bd39 ch s5 x.1 y.1)] (GS.rsr _ _ _ _ _ _ _) (fun _ h => h) PanOk.post I fun a12 w12 I => ?_
  refine app_al [] [] (ch, s5, 1, x.1, y.1) rfl I (by rw [stA_len, stA_len]) (by omega) fun ad8 cap8 a17 w17 I => ?_
  refine goQ [] (GS.rsr _ _ _ _ _ _ _) I fun β18 a18 w18 I hb18 => ?_
  refine outQ (v := .tuple #[.slice ad8 (l.length + 1) cap8, Z 0]) I ⟨_, rfl, .inr (I.hJ.newA fun t ht => ?_)⟩
  rcases List.mem_append.1 ht with ht | ht
  · exact stA_lt (stA_lt hL _ (by omega)) _ (by omega) t ht
  · rw [List.mem_singleton.1 ht]
    show s5 < W
    omega
end Go.Proofs.Ytdiblfgnnliifaa
