/- Sameness, sums, places: the document; why shares are refused. -/
import Derived.Test.YtdiblfgnnliifaaTb
namespace Go.Proofs.Ytdiblfgnnliifaa
open Go.RowKit Go.Sort
set_option linter.unusedVariables false
set_option maxRecDepth 100000
abbrev saK : List Nat := [0, 1, 4, 5]
abbrev sameV (v v2 : Value) (i : Nat) : Vs := frm 26 [(0, Sum.inl v), (1, Sum.inl v2), (4, Sum.inl (.bool false)), (5, Sum.inl (Z i))]
theorem same_any {w : World} {v v2 : Value} {l m : List Al} (h : SlI 8 C8 (· < w.heap.size) w v l) (h2 : SlI 8 C8 (· < w.heap.size) w v2 m) (hl : l.length < 1000000000) : Calls Try.prog 13 #[v, v2] w fun e w' => e = .returned (.bool (decide (l = m))) ∧ Below w.heap.size w w' := by
  obtain ⟨ad, cap, rfl, hm⟩ := h
  obtain ⟨ad2, cap2, rfl, hm2⟩ := h2
  refine inQ (J := Below w.heap.size w) (F := (· < w.heap.size)) Try.func13 (Below.refl _ _) fun a I => ?_
  by_cases h4 : ¬ l.length = m.length
  · refine goQ [lnA ad l.length cap, lnA ad2 m.length cap2, bO .neq 3 (run_neqZ (x := l.length) (y := m.length) (b := true) (decide_eq_true (by omega)))] (nonR w) I fun β a w1 I hb => ?_
    exact outQ (v := .bool false) I ⟨by rw [decide_eq_false (fun e : l = m => h4 (by rw [e]))], I.hJ⟩
  have h4 := Classical.not_not.1 h4
  refine goQ [lnA ad l.length cap, lnA ad2 m.length cap2, bO .neq 3 (run_neqZ (x := l.length) (y := m.length) (b := false) (decide_eq_false (by omega)))] (nonR w) I fun β a w1 I hb => ?_
  let St : Nat → Act → World → Prop := fun k a w' => ∃ (i : Nat) (β : Nat → Nat) (u : Nat → Value), k = l.length - i ∧ i ≤ l.length ∧ (∀ j, j < i → l[j]? = m[j]?) ∧
    SI (Below w.heap.size w) (· < w.heap.size) [] β (cfC (bodyL Try.f13) (fillF (scrF 26 saK) u 0 (sameV (.slice ad l.length cap) (.slice ad2 m.length cap2) i)) [] 0) a w'
  refine lpM (bodyL Try.f13) St l.length ?_ ?_
  · obtain ⟨u, Iu⟩ := I.scr (bodyL Try.f13) (scrF 26 saK) (sameV (.slice ad l.length cap) (.slice ad2 m.length cap2) 0) [] 0
    exact ⟨0, β, u, by omega, Nat.zero_le _, fun j h => absurd h (Nat.not_lt_zero j), Iu⟩
  rintro k a3 w3 ⟨i, β3, u, rfl, hi, hok, I⟩
  refine wp_cfC (tm := fillF (scrF 26 saK) u 0 (sameV (.slice ad l.length cap) (.slice ad2 m.length cap2) i)) (rows := []) (nx := 0) ?_
  rcases Nat.lt_or_ge i l.length with hil | hil
  · have hil2 : i < m.length := by omega
    obtain ⟨x, k1⟩ : ∃ t, l[i]? = some t := ⟨_, List.getElem?_eq_getElem hil⟩
    obtain ⟨y, k2⟩ : ∃ t, m[i]? = some t := ⟨_, List.getElem?_eq_getElem hil2⟩
    obtain ⟨g, off, cs, rfl, hlt, hca, rfl, hx⟩ := hm i _ k1
    obtain ⟨g2, off2, cs2, rfl, hlt2, hcb, rfl, hy⟩ := hm2 i _ k2
    have hld : ∀ w', Below w.heap.size w w' → (loadVar 39 ⟨g, off + i * 8, none⟩).run Try.prog w' = .ok (alV x) w' := fun w' hb => loadAl (hca.keep (hb.block g hlt))
    have hld2 : ∀ w', Below w.heap.size w w' → (loadVar 39 ⟨g2, off2 + i * 8, none⟩).run Try.prog w' = .ok (alV y) w' := fun w' hb => loadAl (hcb.keep (hb.block g2 hlt2))
    refine goQ [lnA (some ⟨g, off, none⟩) l.length cap, lT i l.length (by omega)] (nonR w) I fun β4 a4 w4 I hb4 => ?_
    by_cases hxy : ¬ x = y
    · refine dwT (T := Below w.heap.size w) 9 [ixA g off l.length cap i hil, ldA 39 hld, ixA g2 off2 m.length cap2 i hil2, ldA 39 hld2, bO .neq 39 (neqAl_run hx hy (decide_eq_true hxy))] (nonR w) (fun _ h => h) (PanOk.then (PanOk.qk PanOk.post)) I fun a5 w5 I => ?_
      refine goQ [] (nonR w) I fun β6 a6 w6 I hb6 => ?_
      refine endR (retV (v := .bool false) I ⟨?_, I.hJ⟩)
      rw [decide_eq_false (show ¬ l = m from fun h => hxy (by rw [h] at k1; rw [k1] at k2; cases k2; rfl))]
    have hxy := Classical.not_not.1 hxy
    refine dwT (T := Below w.heap.size w) 9 [ixA g off l.length cap i hil, ldA 39 hld, ixA g2 off2 m.length cap2 i hil2, ldA 39 hld2, bO .neq 39 (neqAl_run hx hy (decide_eq_false (not_not_intro hxy)))] (nonR w) (fun _ h => h) (PanOk.then (PanOk.qk PanOk.post)) I fun a5 w5 I => ?_
    refine goQ [p1 i (by omega)] (nonR w) I fun β6 a6 w6 I hb6 => ?_
    obtain ⟨u', Iu⟩ := I.scr (bodyL Try.f13) (scrF 26 saK) (sameV (.slice (some ⟨g, off, none⟩) l.length cap) (.slice (some ⟨g2, off2, none⟩) m.length cap2) (i + 1)) [] 0
    refine endL ⟨l.length - (i + 1), by omega, i + 1, β6, u', rfl, hil, fun j hj => ?_, Iu⟩
    rcases Nat.lt_or_ge j i with hji | hji
    · exact hok j hji
    · obtain rfl : j = i := by omega
      rw [k1, k2, hxy]
  · obtain rfl : i = l.length := by omega
    refine goQ [lnA ad l.length cap, lF l.length l.length (by omega)] (nonR w) I fun β4 a4 w4 I hb4 => ?_
    refine endE 0 ?_
    refine goQ [] (nonR w) (I.exit _) fun β5 a5 w5 I hb5 => ?_
    refine outQ (v := .bool true) I ⟨?_, I.hJ⟩
    rw [decide_eq_true (show l = m from List.ext_getElem? fun j => by
      rcases Nat.lt_or_ge j l.length with hj | hj
      · exact hok j hj
      · rw [List.getElem?_eq_none hj, List.getElem?_eq_none (by omega)])]

/-- Sums and differences, where it is known whether they go over. -/
theorem addT {f : Nat} {n m : Nat} (hA : ∀ n m : Nat, n < W → m < W → ∀ w, Calls Try.prog f #[U n, U m] w fun e w' => e = .returned (.tuple #[U (addW n m), .bool (ovW n m)]) ∧ Below w.heap.size w w') (h1 : n < W) (h2 : m < W) {q : Bool} (h : decide (W ≤ n + m) = q) (w : World) : Calls Try.prog f #[U n, U m] w fun e w' => e = .returned (.tuple #[U ((n + m) % W), .bool q]) ∧ Below w.heap.size w w' := by
  have := hA n m h1 h2 w
  unfold addW ovW at this
  rw [h] at this
  exact this
theorem subT {f : Nat} {n m : Nat} (hA : ∀ n m : Nat, n < W → m < W → ∀ w, Calls Try.prog f #[U n, U m] w fun e w' => e = .returned (.tuple #[U (subW n m), .bool (unW n m)]) ∧ Below w.heap.size w w') (h1 : n < W) (h2 : m < W) {q : Bool} (h : decide (n < m) = q) (w : World) : Calls Try.prog f #[U n, U m] w fun e w' => e = .returned (.tuple #[U ((n + W - m) % W), .bool q]) ∧ Below w.heap.size w w' := by
  have := hA n m h1 h2 w
  unfold subW unW at this
  rw [h] at this
  exact this
theorem tot_take {l : List Al} {i : Nat} {x : Al} (h : l[i]? = some x) : tot (l.take (i + 1)) = tot (l.take i) + x.2.1 := by
  rw [List.take_add_one, h, tot_app]
  simp [tot]
abbrev tlK : List Nat := [2, 3, 7, 8, 9]
abbrev tlV (v : Value) (n i : Nat) : Vs := frm 22 [(2, Sum.inr (0, 0)), (3, Sum.inr (1, 0)), (7, Sum.inl v), (8, Sum.inl (Z n)), (9, Sum.inl (Z i))]
theorem total_any {w : World} {v : Value} {l : List Al} (h : AlI w v l) (hl : l.length < 1000000000) : Calls Try.prog 14 #[v] w fun e w' => e = .returned (U (tot l % W)) ∧ Below w.heap.size w w' := by
  obtain ⟨ad, cap, rfl, hm⟩ := h
  refine inQ (J := Below w.heap.size w) (F := (· < w.heap.size)) Try.func14 (Below.refl _ _) fun a I => ?_
  refine goQ [dO 25 [] bd_Uz, lnA ad l.length cap] (nonR w) I fun β a w1 I hb1 => ?_
  refine lpM (bodyL Try.f14) (fun k a w' => ∃ (i : Nat) (β : Nat → Nat) (u : Nat → Value), k = l.length - i ∧ i ≤ l.length ∧ SI (Below w.heap.size w) (· < w.heap.size) [] β (cfC (bodyL Try.f14) (fillF (scrF 22 tlK) u 0 (tlV (.slice ad l.length cap) l.length i)) [(0, rU 0), (1, rU (tot (l.take i) % W))] 2) a w') l.length ?_ ?_
  · obtain ⟨u, Iu⟩ := I.scr (bodyL Try.f14) (scrF 22 tlK) (tlV (.slice ad l.length cap) l.length 0) [(0, rU 0), (1, rU 0)] 2
    exact ⟨0, β, u, by omega, Nat.zero_le _, Iu⟩
  rintro k a3 w3 ⟨i, β3, u, rfl, hi, I⟩
  obtain ⟨s, hs⟩ : ∃ s, tot (l.take i) % W = s := ⟨_, rfl⟩
  rw [hs] at I
  refine wp_cfC (tm := fillF (scrF 22 tlK) u 0 (tlV (.slice ad l.length cap) l.length i)) (rows := [(0, rU 0), (1, rU s)]) (nx := 2) ?_
  rcases Nat.lt_or_ge i l.length with hil | hil
  · obtain ⟨x, k1⟩ : ∃ t, l[i]? = some t := ⟨_, List.getElem?_eq_getElem hil⟩
    have hT := tot_take k1
    obtain ⟨g, off, cs', rfl, hlt, hca, rfl, hxW⟩ := hm i _ k1
    have hld : ∀ w', Below w.heap.size w w' → (loadVar 39 ⟨g, off + i * 8, none⟩).run Try.prog w' = .ok (alV x) w' := fun w' hb => loadAl (hca.keep (hb.block g hlt))
    obtain ⟨d, n, kd, le, ri⟩ := x
    simp only [] at hT hxW
    have hsW : s < W := by rw [← hs]; exact Nat.mod_lt _ W_pos
    obtain ⟨q, hq⟩ : ∃ q, decide (W ≤ s + n) = q := ⟨_, rfl⟩
    have hadd := addT radd_any hsW hxW hq
    have e2 : tot (l.take (i + 1)) % W = (s + n) % W := by rw [hT, ← hs, Nat.mod_add_mod]
    obtain ⟨s2, hs2⟩ : ∃ t, (s + n) % W = t := ⟨_, rfl⟩
    rw [hs2] at hadd e2
    refine goT (T := Below w.heap.size w) [lT i l.length (by omega), ixA g off l.length cap i hil, ldA 39 hld, kC Try.func16 hadd, p1 i (by omega)] (nonR w) (fun _ h => h) I fun β4 a4 w4 I hb4 => ?_
    obtain ⟨u', Iu⟩ := I.scr (bodyL Try.f14) (scrF 22 tlK) (tlV (.slice (some ⟨g, off, none⟩) l.length cap) l.length (i + 1)) [(0, rU 0), (1, rU s2)] 2
    exact endL ⟨l.length - (i + 1), by omega, i + 1, β4, u', rfl, hil, by rw [e2]; exact Iu⟩
  · obtain rfl : i = l.length := by omega
    rw [List.take_length] at hs
    refine goQ [lF l.length l.length (by omega)] (nonR w) I fun β4 a4 w4 I hb4 => ?_
    refine endE 0 ?_
    refine goQ [] (nonR w) (I.exit _) fun β5 a5 w5 I hb5 => ?_
    exact outQ (v := U s) I ⟨by rw [hs], I.hJ⟩
abbrev rpK : List Nat := [0, 1, 5]
abbrev rpV (v : Value) (d : ByteArray) (i : Nat) : Vs := frm 28 [(0, Sum.inl v), (1, Sum.inl (.string d)), (5, Sum.inl (Z i))]
/-- The document's place of a destination. -/
theorem rplain_any {w : World} {v : Value} {l : List Al} (h : AlI w v l) (hl : l.length < 1000000000) (d : ByteArray) : Calls Try.prog 27 #[v, .string d] w fun r w' => r = .returned (Z (ixZ (plP d) l)) ∧ Below w.heap.size w w' := by
  obtain ⟨ad, cap, rfl, hm⟩ := h
  refine inQ (J := Below w.heap.size w) (F := (· < w.heap.size)) Try.func27 (Below.refl _ _) fun a I => ?_
  refine goQ [] (nonR w) I fun β a w1 I hb1 => ?_
  refine lpM (bodyL Try.f27) (fun k a w' => ∃ (i : Nat) (β : Nat → Nat) (u : Nat → Value), k = l.length - i ∧ i ≤ l.length ∧ (∀ j x, j < i → l[j]? = some x → plP d x = false) ∧ SI (Below w.heap.size w) (· < w.heap.size) [] β (cfC (bodyL Try.f27) (fillF (scrF 28 rpK) u 0 (rpV (.slice ad l.length cap) d i)) [] 0) a w') l.length ?_ ?_
  · obtain ⟨u, Iu⟩ := I.scr (bodyL Try.f27) (scrF 28 rpK) (rpV (.slice ad l.length cap) d 0) [] 0
    exact ⟨0, β, u, by omega, Nat.zero_le _, fun j x h => absurd h (Nat.not_lt_zero j), Iu⟩
  rintro k a3 w3 ⟨i, β3, u, rfl, hi, hok, I⟩
  refine wp_cfC (tm := fillF (scrF 28 rpK) u 0 (rpV (.slice ad l.length cap) d i)) (rows := []) (nx := 0) ?_
  rcases Nat.lt_or_ge i l.length with hil | hil
  · obtain ⟨x, k1⟩ : ∃ t, l[i]? = some t := ⟨_, List.getElem?_eq_getElem hil⟩
    obtain ⟨g, off, cs', rfl, hlt, hca, rfl, hxW⟩ := hm i _ k1
    have hl1 : ∀ w', Below w.heap.size w w' → (loadVar 3 ⟨g, off + i * 8 + 5, none⟩).run Try.prog w' = .ok (Z x.2.2.1) w' := fun w' hb => loadK (hca.keep (hb.block g hlt))
    have hl2 : ∀ w', Below w.heap.size w w' → (loadVar 9 ⟨g, off + i * 8 + 0, none⟩).run Try.prog w' = .ok (.string x.1) w' := fun w' hb => loadD (hca.keep (hb.block g hlt))
    have hstep : ∀ (h : plP d x = false) j y, j < i + 1 → l[j]? = some y → plP d y = false := fun h j y hj hy => by
      rcases Nat.lt_or_ge j i with hji | hji
      · exact hok j y hji hy
      · obtain rfl : j = i := by omega
        rw [k1] at hy; cases hy; exact h
    have hfin : ∀ (h : plP d x = true), ixZ (plP d) l = (i : Nat) := fun h => by
      have e := ix_is (plP d) l i x k1 h hok
      unfold ixZ
      rw [e, if_pos hil]
    obtain ⟨e, n, kd, le, ri⟩ := x
    unfold plP at hstep hfin
    simp only [] at hl1 hl2 hstep hfin
    by_cases hk : kd = 0
    · rw [decide_eq_true hk, Bool.true_and] at hstep hfin
      by_cases hd : e = d
      · rw [decide_eq_true hd] at hfin
        refine goT (T := Below w.heap.size w) [lnA (some ⟨g, off, none⟩) l.length cap, lT i l.length (by omega), ixA g off l.length cap i hil, ldA 3 hl1, bO .eql 3 (run_eqlZ (x := kd) (y := 0) (b := true) (decide_eq_true hk)), ixA g off l.length cap i hil, ldA 9 hl2, bO .eql 9 (eqT_run (decide_eq_true hd))] (nonR w) (fun _ h => h) I fun β4 a4 w4 I hb4 => ?_
        exact endR (retV (v := Z i) I ⟨by rw [show ixZ (plP d) l = (i : Nat) from hfin rfl], I.hJ⟩)
      · rw [decide_eq_false hd] at hstep
        refine goT (T := Below w.heap.size w) [lnA (some ⟨g, off, none⟩) l.length cap, lT i l.length (by omega), ixA g off l.length cap i hil, ldA 3 hl1, bO .eql 3 (run_eqlZ (x := kd) (y := 0) (b := true) (decide_eq_true hk)), ixA g off l.length cap i hil, ldA 9 hl2, bO .eql 9 (eqT_run (decide_eq_false hd)), p1 i (by omega)] (nonR w) (fun _ h => h) I fun β4 a4 w4 I hb4 => ?_
        obtain ⟨u', Iu⟩ := I.scr (bodyL Try.f27) (scrF 28 rpK) (rpV (.slice (some ⟨g, off, none⟩) l.length cap) d (i + 1)) [] 0
        exact endL ⟨l.length - (i + 1), by omega, i + 1, β4, u', rfl, hil, hstep rfl, Iu⟩
    · rw [decide_eq_false hk, Bool.false_and] at hstep
      refine goT (T := Below w.heap.size w) [lnA (some ⟨g, off, none⟩) l.length cap, lT i l.length (by omega), ixA g off l.length cap i hil, ldA 3 hl1, bO .eql 3 (run_eqlZ (x := kd) (y := 0) (b := false) (decide_eq_false hk)), p1 i (by omega)] (nonR w) (fun _ h => h) I fun β4 a4 w4 I hb4 => ?_
      obtain ⟨u', Iu⟩ := I.scr (bodyL Try.f27) (scrF 28 rpK) (rpV (.slice (some ⟨g, off, none⟩) l.length cap) d (i + 1)) [] 0
      exact endL ⟨l.length - (i + 1), by omega, i + 1, β4, u', rfl, hil, hstep rfl, Iu⟩
  · obtain rfl : i = l.length := by omega
    refine goQ [lnA ad l.length cap, lF l.length l.length (by omega)] (nonR w) I fun β4 a4 w4 I hb4 => ?_
    refine endE 0 ?_
    refine goQ [] (nonR w) (I.exit _) fun β5 a5 w5 I hb5 => ?_
    refine outQ (v := Z (-1)) I ⟨?_, I.hJ⟩
    have e := ix_none (plP d) l fun x hx => by
      obtain ⟨j, hj⟩ := List.mem_iff_getElem?.1 hx
      exact hok j x (List.getElem?_eq_some_iff.1 hj).1 hj
    unfold ixZ
    rw [e, if_neg (by omega)]
/-- The two shares, where they are two. -/
theorem two_of {s : List Al} (h : s.length = 2) : ∃ y z, s = [y, z] := by
  match s, h with
  | [y, z], _ => exact ⟨y, z, rfl⟩
set_option maxHeartbeats 2000000 in
theorem refused_any {w : World} {v vs : Value} {l s : List Al} (h : AlI w v l) (hs : AlI w vs s) (hl : l.length < 1000000000) (hsl : s.length < 1000000000) (k : Int) : Calls Try.prog 17 #[v, Z k, vs] w fun r w' => r = .returned (Z (rfE l k s)) ∧ Below w.heap.size w w' := by
  have hcon := fun (w' : World) (hb : Below w.heap.size w w') => contains_any (hs.below C8.loc hb) hsl
  have hpl := fun (ad : Option Addr) (cap : Nat) (w' : World) => place_raw 29 (.inr rfl) (w := w') ad cap l k
  obtain ⟨ad, cap, rfl, hm⟩ := h
  obtain ⟨ad2, cap2, rfl, hm2⟩ := hs
  refine inQ (J := Below w.heap.size w) (F := (· < w.heap.size)) Try.func17 (Below.refl _ _) fun a I => ?_
  unfold rfE
  cases hP : isP l k with
  | false =>
    rw [hP] at hpl
    refine goQ [kC Try.func29 (hpl ad cap), ntO false] (nonR w) I fun β a w1 I hb => ?_
    exact outQ (v := Z 3) I ⟨rfl, I.hJ⟩
  | true =>
    rw [hP] at hpl
    obtain ⟨i, rfl, hil⟩ := isP_nat hP
    rw [if_neg (by decide)]
    obtain ⟨x, k1⟩ : ∃ t, l[i]? = some t := ⟨_, List.getElem?_eq_getElem hil⟩
    rw [Int.toNat_natCast, getD_is k1, am_is k1]
    obtain ⟨g, off, cs', rfl, hlt, hca, rfl, hxW⟩ := hm i _ k1
    have hl1 : ∀ w', Below w.heap.size w w' → (loadVar 3 ⟨g, off + i * 8 + 5, none⟩).run Try.prog w' = .ok (Z x.2.2.1) w' := fun w' hb => loadK (hca.keep (hb.block g hlt))
    have hl3 : ∀ w', Below w.heap.size w w' → (loadVar 25 ⟨g, off + i * 8 + 1, none⟩).run Try.prog w' = .ok (U x.2.1) w' := fun w' hb => loadU (hca.keep (hb.block g hlt))
    by_cases hk : x.2.2.1 = 1
    · by_cases h2 : s.length = 2
      · obtain ⟨y, z, rfl⟩ := two_of h2
        obtain ⟨q, hq⟩ : ∃ q, ([y, z] : List Al).any npP = q := ⟨_, rfl⟩
        rw [hq] at hcon ⊢
        refine goT (T := Below w.heap.size w) [kC Try.func29 (hpl (some ⟨g, off, none⟩) cap), ntO true, ixA g off l.length cap i hil, ldA 3 hl1, bO .neq 3 (run_neqZ (x := x.2.2.1) (y := 1) (b := false) (decide_eq_false (not_not_intro hk))), lnA ad2 2 cap2, bO .neq 3 (run_neqZ (x := (2 : Nat)) (y := 2) (b := false) (decide_eq_false (not_not_intro rfl)))] (nonR w) (fun _ h => h) I fun β3 a3 w3 I hb3 => ?_
        refine bcallX [Sum.inl (.slice ad2 2 cap2), Sum.inl (.func (.func 31) #[] #[])] Try.func36 (nonR w) I (fun v => v = .bool q) ((hcon w3 I.hJ).mono fun e w' he => ⟨he.2, _, he.1, rfl⟩) fun v w4 hv I => ?_
        subst hv
        cases q with
        | true =>
          refine goQ [] (nonR w) I fun β5 a5 w5 I hb5 => ?_
          rw [if_pos (.inr (.inr rfl))]
          exact outQ (v := Z 2) I ⟨rfl, I.hJ⟩
        | false =>
          rw [if_neg (fun h => h.elim (fun h => h hk) fun h => h.elim (fun h => h rfl) fun h => by cases h)]
          obtain ⟨g2, off2, cs2, rfl, hlt2, hcb, rfl, hyW⟩ := hm2 0 y rfl
          obtain ⟨g3, off3, cs3, he3, hlt3, hcc, rfl, hzW⟩ := hm2 1 z rfl
          cases he3
          have hl4 : ∀ w', Below w.heap.size w w' → (loadVar 25 ⟨g2, off2 + 0 * 8 + 1, none⟩).run Try.prog w' = .ok (U y.2.1) w' := fun w' hb => loadU (hcb.keep (hb.block g2 hlt2))
          have hl5 : ∀ w', Below w.heap.size w w' → (loadVar 25 ⟨g2, off2 + 1 * 8 + 1, none⟩).run Try.prog w' = .ok (U z.2.1) w' := fun w' hb => loadU (hcc.keep (hb.block g2 hlt2))
          have e0 : am [y, z] 0 = y.2.1 := rfl
          have e1 : am [y, z] 1 = z.2.1 := rfl
          rw [e0, e1]
          generalize y.2.1 = a1 at *
          generalize z.2.1 = b1 at *
          generalize x.2.1 = m1 at *
          obtain ⟨q, hq'⟩ : ∃ q, decide (W ≤ a1 + b1) = q := ⟨_, rfl⟩
          have hadd := addT add_any hyW hzW hq'
          obtain ⟨s2, hs2⟩ : ∃ t, (a1 + b1) % W = t := ⟨_, rfl⟩
          rw [hs2] at hadd
          have hs2W : s2 < W := by rw [← hs2]; exact Nat.mod_lt _ W_pos
          refine goQ [] (nonR w) I fun β5 a5 w5 I hb5 => ?_
          refine dwA (T := Below w.heap.size w) 12 13 7 38 s2 [ixA g2 off2 2 cap2 0 (by decide), ldA 25 hl4, ixA g2 off2 2 cap2 1 (by decide), ldA 25 hl5, kC Try.func23 hadd] (nonR w) (fun _ h => h) I fun bb vs β6 a6 w6 hb6 I => ?_
          refine goQ [] (nonR w) I fun β7 a7 w7 I hb7 => ?_
          cases q with
          | true =>
            refine dwT (T := Below w.heap.size w) 12 [kC Try.func21 (errIf_any true 16)] (nonR w) (fun _ h => h) PanOk.post I fun a8 w8 I => ?_
            refine goQ [] (nonR w) I fun β9 a9 w9 I hb9 => ?_
            rw [if_pos (.inl (of_decide_eq_true hq'))]
            exact outQ (v := Z 16) I ⟨rfl, I.hJ⟩
          | false =>
            have hlt2' : a1 + b1 < W := by have := of_decide_eq_false hq'; omega
            rw [Nat.mod_eq_of_lt hlt2'] at hs2
            subst hs2
            by_cases hne : a1 + b1 = m1
            · refine dwT (T := Below w.heap.size w) 12 [ixA g off l.length cap i hil, ldA 25 hl3, bO .neq 25 (neqU_run hs2W hxW (b := false) (decide_eq_false (not_not_intro hne))), kC Try.func21 (errIf_any false 16)] (nonR w) (fun _ h => h) PanOk.post I fun a8 w8 I => ?_
              refine goQ [] (nonR w) I fun β9 a9 w9 I hb9 => ?_
              rw [if_neg (fun h => h.elim (fun h => by omega) fun h => h hne)]
              exact outQ (v := Z 0) I ⟨rfl, I.hJ⟩
            · refine dwT (T := Below w.heap.size w) 12 [ixA g off l.length cap i hil, ldA 25 hl3, bO .neq 25 (neqU_run hs2W hxW (b := true) (decide_eq_true hne)), kC Try.func21 (errIf_any true 16)] (nonR w) (fun _ h => h) PanOk.post I fun a8 w8 I => ?_
              refine goQ [] (nonR w) I fun β9 a9 w9 I hb9 => ?_
              rw [if_pos (.inr hne)]
              exact outQ (v := Z 16) I ⟨rfl, I.hJ⟩
      · rw [if_pos (.inr (.inl h2))]
        refine goT (T := Below w.heap.size w) [kC Try.func29 (hpl (some ⟨g, off, none⟩) cap), ntO true, ixA g off l.length cap i hil, ldA 3 hl1, bO .neq 3 (run_neqZ (x := x.2.2.1) (y := 1) (b := false) (decide_eq_false (not_not_intro hk))), lnA ad2 s.length cap2, bO .neq 3 (run_neqZ (x := s.length) (y := 2) (b := true) (decide_eq_true (by omega)))] (nonR w) (fun _ h => h) I fun β3 a3 w3 I hb3 => ?_
        exact outQ (v := Z 2) I ⟨rfl, I.hJ⟩
    · rw [if_pos (.inl hk)]
      refine goT (T := Below w.heap.size w) [kC Try.func29 (hpl (some ⟨g, off, none⟩) cap), ntO true, ixA g off l.length cap i hil, ldA 3 hl1, bO .neq 3 (run_neqZ (x := x.2.2.1) (y := 1) (b := true) (decide_eq_true hk))] (nonR w) (fun _ h => h) I fun β3 a3 w3 I hb3 => ?_
      exact outQ (v := Z 2) I ⟨rfl, I.hJ⟩
end Go.Proofs.Ytdiblfgnnliifaa
