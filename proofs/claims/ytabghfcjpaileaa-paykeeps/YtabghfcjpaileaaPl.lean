/- The document's Transfer. -/
import Derived.Test.YtabghfcjpaileaaPk
namespace Go.Proofs.Ytabghfcjpaileaa
open Go.RowKit Go.Sort
set_option linter.unusedVariables false
set_option maxRecDepth 100000
/-- What the document's Transfer leaves. -/
def rtP (w : World) (v : Value) (h : Nat) (l : List Al) (p : List Int) (e : Ending) (w' : World) : Prop :=
  (rfE l p ≠ 0 ∧ e = .returned (.tuple #[v, .slice none 0 0, U h, Z (rfE l p)]) ∧ Below w.heap.size w w') ∨ (rfE l p = 0 ∧ ∃ v1 v2, e = .returned (.tuple #[v1, v2, U (h - (pdL h l p).sum), Z 0]) ∧ NW w [alF v1 (rsL h l p), nuF v2 (pdL h l p)] w')
theorem rfE_two {l : List Al} {p : List Int} (hw : whB l.length p = true) {x : Int} (hx : x ∈ p) (hq : plJ l x = false) : rfE l p = 2 := by
  unfold rfE
  rw [hw, if_neg (by simp), if_pos]
  cases hp : plB l p with
  | false => rfl
  | true =>
    have := List.all_eq_true.1 hp x hx
    rw [hq] at this; cases this
theorem rfE_zero {l : List Al} {p : List Int} (hw : whB l.length p = true) (hq : ∀ x ∈ p, plJ l x = true) : rfE l p = 0 := by
  unfold rfE
  rw [hw, if_neg (by simp), if_neg]
  rw [show plB l p = true from List.all_eq_true.2 hq]
  simp
abbrev q0K : List Nat := [1, 2, 3, 6, 7, 8, 9, 10]
abbrev q0V (v vp : Value) (i : Nat) : Vs := frm 124 [(1, Sum.inl v), (2, Sum.inl vp), (3, Sum.inr (0, 0)), (6, Sum.inl (.slice none 0 0)), (7, Sum.inl (.slice none 0 0)), (8, Sum.inr (1, 0)), (9, Sum.inl (Z 0)), (10, Sum.inl (Z i))]
abbrev q1K : List Nat := [1, 2, 3, 6, 7, 8, 9, 11]
abbrev q1V (v vp : Value) (i : Nat) : Vs := frm 124 [(1, Sum.inl v), (2, Sum.inl vp), (3, Sum.inr (0, 0)), (6, Sum.inl (.slice none 0 0)), (7, Sum.inl (.slice none 0 0)), (8, Sum.inr (1, 0)), (9, Sum.inl (Z 0)), (11, Sum.inl (Z i))]
abbrev q2K : List Nat := [1, 2, 3, 6, 7, 8, 9, 12, 13, 14, 15]
abbrev q2V (v vp vc o1 o2 : Value) (i : Nat) : Vs := frm 124 [(1, Sum.inl v), (2, Sum.inl vp), (3, Sum.inr (0, 0)), (6, Sum.inl (.slice none 0 0)), (7, Sum.inl (.slice none 0 0)), (8, Sum.inr (1, 0)), (9, Sum.inl (Z 0)), (12, Sum.inl vc), (13, Sum.inl o1), (14, Sum.inl o2), (15, Sum.inl (Z i))]
set_option maxHeartbeats 8000000 in
theorem rtransfer_any {w : World} {v vp : Value} {l : List Al} {p : List Int} {h : Nat} (hv : AlI w v l) (hp : InI w vp p) (hl : l.length < 1000000) (hpl : p.length < 1000000000) (hh : h < W) : Calls Try.prog 10 #[U h, v, vp] w (rtP w v h l p) := by
  have hlW : ∀ x ∈ l, x.2.1 < W := fun x hx => ali_lt hv hx
  have hP : ∀ {e w'}, ((rfE l p ≠ 0 ∧ e = .returned (.tuple #[v, .slice none 0 0, U h, Z (rfE l p)]) ∧ Below w.heap.size w w') ∨ (rfE l p = 0 ∧ ∃ v1 v2, e = .returned (.tuple #[v1, v2, U (h - (pdL h l p).sum), Z 0]) ∧ NW w [alF v1 (rsL h l p), nuF v2 (pdL h l p)] w')) → rtP w v h l p e w' := fun h => h
  have hv' := hv
  have hp' := hp
  obtain ⟨ad, cap, rfl, hm⟩ := hv
  obtain ⟨adp, capp, rfl, hmp⟩ := hp
  refine inQ (J := GS w w w.heap.size noK (· < w.heap.size) [] []) (F := GF noK (· < w.heap.size) []) Try.func10 (GS.start w fun f hf => by (cases hf)) fun a I => ?_
  have hR := GS.rsr w w w.heap.size noK (· < w.heap.size) [] []
  refine goQ [] hR I fun β1 a1 w1 I hb1 => ?_
  let St : Nat → Act → World → Prop := fun k a w' => ∃ (i : Nat) (β : Nat → Nat) (u : Nat → Value), k = p.length - i ∧ i ≤ p.length ∧ (∀ j, j < i → nxP p j ≤ p.getD j 0 ∧ p.getD j 0 < l.length) ∧
    SI (GS w w w.heap.size noK (· < w.heap.size) [] []) (GF noK (· < w.heap.size) []) [] β (cfC (bodyLk Try.f10 0) (fillF (scrF 124 q0K) u 0 (q0V (.slice ad l.length cap) (.slice adp p.length capp) i)) [(0, rU h), (1, rU 0)] 2) a w'
  refine lpM (bodyLk Try.f10 0) St p.length ?_ ?_
  · obtain ⟨u, Iu⟩ := I.scr (bodyLk Try.f10 0) (scrF 124 q0K) (q0V (.slice ad l.length cap) (.slice adp p.length capp) 0) [(0, rU h), (1, rU 0)] 2
    exact ⟨0, β1, u, by omega, Nat.zero_le _, fun j h => absurd h (Nat.not_lt_zero j), Iu⟩
  rintro k a3 w3 ⟨i, β3, u, rfl, hi, hok, I⟩
  refine wp_cfC (tm := fillF (scrF 124 q0K) u 0 (q0V (.slice ad l.length cap) (.slice adp p.length capp) i)) (rows := [(0, rU h), (1, rU 0)]) (nx := 2) ?_
  rcases Nat.lt_or_ge i p.length with hil | hil
  · obtain ⟨x, k1⟩ : ∃ t, p[i]? = some t := ⟨_, List.getElem?_eq_getElem hil⟩
    obtain ⟨g, off, cs, rfl, hlt, hca, rfl⟩ := hmp i _ k1
    have hld : ∀ w', GS w w w.heap.size noK (· < w.heap.size) [] [] w' → (loadVar 3 ⟨g, off + i * 1, none⟩).run Try.prog w' = .ok (Z x) w' := fun w' hw => loadI (hca.keep (hw.bw.block g hlt))
    have hno := rfE_at (l := l) hil
    have hxi : p.getD i 0 = x := getD_get k1
    rw [hxi] at hno
    refine goQ [lnI (some ⟨g, off, none⟩) p.length capp, lT i p.length (by omega)] hR I fun β4 a4 w4 I hb4 => ?_
    have h0n := nx_pos i hok
    by_cases q1 : x < 0
    · refine dwT (T := GS w w w.heap.size noK (· < w.heap.size) [] []) 30 [ixI g off p.length capp i hil, ldA 3 hld, bO .lss 3 (run_lssZ (x := x) (y := 0) (b := true) (decide_eq_true q1))] hR (fun _ h => h) (PanOk.then (PanOk.qk PanOk.post)) I fun a5 w5 I => ?_
      refine goQ [] hR I fun β6 a6 w6 I hb6 => ?_
      refine dwR (T := fun _ => True) 4 8 1 55 h [(0, rU h)] [] [] (fun _ _ _ => True) (fun _ _ _ _ _ _ => trivial) hR (fun _ _ => trivial) I (fun q hq => (by cases hq)) fun vs a7 w7 _ I => ?_
      refine goQ [] hR I fun β8 a8 w8 I hb8 => ?_
      have er := hno (by omega)
      exact endR (ret4 (v := .tuple #[(.slice ad l.length cap), .slice none 0 0, U h, Z 3]) I (hP (.inl ⟨by rw [er]; decide, by rw [er], I.hJ.bw⟩)))
    by_cases q2 : (l.length : Int) ≤ x
    · refine dwT (T := GS w w w.heap.size noK (· < w.heap.size) [] []) 30 [ixI g off p.length capp i hil, ldA 3 hld, bO .lss 3 (run_lssZ (x := x) (y := 0) (b := false) (decide_eq_false q1)), ixI g off p.length capp i hil, ldA 3 hld, lnA ad l.length cap, bO .geq 3 (run_geqZ (x := x) (y := l.length) (b := true) (decide_eq_true q2))] hR (fun _ h => h) (PanOk.then (PanOk.qk PanOk.post)) I fun a5 w5 I => ?_
      refine goQ [] hR I fun β6 a6 w6 I hb6 => ?_
      refine dwR (T := fun _ => True) 4 8 1 55 h [(0, rU h)] [] [] (fun _ _ _ => True) (fun _ _ _ _ _ _ => trivial) hR (fun _ _ => trivial) I (fun q hq => (by cases hq)) fun vs a7 w7 _ I => ?_
      refine goQ [] hR I fun β8 a8 w8 I hb8 => ?_
      have er := hno (by omega)
      exact endR (ret4 (v := .tuple #[(.slice ad l.length cap), .slice none 0 0, U h, Z 3]) I (hP (.inl ⟨by rw [er]; decide, by rw [er], I.hJ.bw⟩)))
    have step : ∀ (hnx : nxP p i ≤ x), ∀ j, j < i + 1 → nxP p j ≤ p.getD j 0 ∧ p.getD j 0 < l.length := fun hnx j hj => by
      rcases Nat.lt_or_ge j i with hji | hji
      · exact hok j hji
      · obtain rfl : j = i := by omega
        rw [hxi]; omega
    by_cases hi0 : i = 0
    · refine dwT (T := GS w w w.heap.size noK (· < w.heap.size) [] []) 30 [ixI g off p.length capp i hil, ldA 3 hld, bO .lss 3 (run_lssZ (x := x) (y := 0) (b := false) (decide_eq_false q1)), ixI g off p.length capp i hil, ldA 3 hld, lnA ad l.length cap, bO .geq 3 (run_geqZ (x := x) (y := l.length) (b := false) (decide_eq_false q2)), bO .gtr 3 (run_gtrZ (x := i) (y := 0) (b := false) (decide_eq_false (by omega)))] hR (fun _ h => h) (PanOk.then (PanOk.qk PanOk.post)) I fun a5 w5 I => ?_
      refine goQ [p1 i (by omega)] hR I fun β6 a6 w6 I hb6 => ?_
      obtain ⟨u', Iu⟩ := I.scr (bodyLk Try.f10 0) (scrF 124 q0K) (q0V (.slice ad l.length cap) (.slice (some ⟨g, off, none⟩) p.length capp) (i + 1)) [(0, rU h), (1, rU 0)] 2
      exact endL ⟨p.length - (i + 1), by omega, i + 1, β6, u', rfl, hil, step (by rw [hi0]; show (0 : Int) ≤ x; omega), Iu⟩
    obtain ⟨x0, k0⟩ : ∃ t, p[i - 1]? = some t := ⟨_, List.getElem?_eq_getElem (by omega)⟩
    obtain ⟨g2, off2, cs2, he2, hlt2, hca2, rfl⟩ := hmp (i - 1) _ k0
    cases he2
    have hld0 : ∀ w', GS w w w.heap.size noK (· < w.heap.size) [] [] w' → (loadVar 3 ⟨g, off + (i - 1) * 1, none⟩).run Try.prog w' = .ok (Z x0) w' := fun w' hw => loadI (hca2.keep (hw.bw.block g hlt2))
    have hnx : nxP p i = x0 + 1 := by
      obtain ⟨j, rfl⟩ : ∃ j, i = j + 1 := ⟨i - 1, by omega⟩
      show p.getD j 0 + 1 = x0 + 1
      rw [getD_get (by simpa using k0)]
    have hsub : IntKind.i64.wrap ((i : Int) - 1) = ((i - 1 : Nat) : Int) := by rw [wz (by omega) (by omega)]; omega
    have hpi : i - 1 < p.length := by omega
    by_cases q3 : x ≤ x0
    · refine dwT (T := GS w w w.heap.size noK (· < w.heap.size) [] []) 30 [ixI g off p.length capp i hil, ldA 3 hld, bO .lss 3 (run_lssZ (x := x) (y := 0) (b := false) (decide_eq_false q1)), ixI g off p.length capp i hil, ldA 3 hld, lnA ad l.length cap, bO .geq 3 (run_geqZ (x := x) (y := l.length) (b := false) (decide_eq_false q2)), bO .gtr 3 (run_gtrZ (x := i) (y := 0) (b := true) (decide_eq_true (by omega))), bO .sub 3 (run_subZ (x := i) (y := 1) (z := (i - 1 : Nat)) hsub), ixI g off p.length capp (i - 1) hpi, ldA 3 hld0, ixI g off p.length capp i hil, ldA 3 hld, bO .geq 3 (run_geqZ (x := x0) (y := x) (b := true) (decide_eq_true q3))] hR (fun _ h => h) (PanOk.then (PanOk.qk PanOk.post)) I fun a5 w5 I => ?_
      refine goQ [] hR I fun β6 a6 w6 I hb6 => ?_
      refine dwR (T := fun _ => True) 4 8 1 55 h [(0, rU h)] [] [] (fun _ _ _ => True) (fun _ _ _ _ _ _ => trivial) hR (fun _ _ => trivial) I (fun q hq => (by cases hq)) fun vs a7 w7 _ I => ?_
      refine goQ [] hR I fun β8 a8 w8 I hb8 => ?_
      have er := hno (by omega)
      exact endR (ret4 (v := .tuple #[(.slice ad l.length cap), .slice none 0 0, U h, Z 3]) I (hP (.inl ⟨by rw [er]; decide, by rw [er], I.hJ.bw⟩)))
    · refine dwT (T := GS w w w.heap.size noK (· < w.heap.size) [] []) 30 [ixI g off p.length capp i hil, ldA 3 hld, bO .lss 3 (run_lssZ (x := x) (y := 0) (b := false) (decide_eq_false q1)), ixI g off p.length capp i hil, ldA 3 hld, lnA ad l.length cap, bO .geq 3 (run_geqZ (x := x) (y := l.length) (b := false) (decide_eq_false q2)), bO .gtr 3 (run_gtrZ (x := i) (y := 0) (b := true) (decide_eq_true (by omega))), bO .sub 3 (run_subZ (x := i) (y := 1) (z := (i - 1 : Nat)) hsub), ixI g off p.length capp (i - 1) hpi, ldA 3 hld0, ixI g off p.length capp i hil, ldA 3 hld, bO .geq 3 (run_geqZ (x := x0) (y := x) (b := false) (decide_eq_false q3))] hR (fun _ h => h) (PanOk.then (PanOk.qk PanOk.post)) I fun a5 w5 I => ?_
      refine goQ [p1 i (by omega)] hR I fun β6 a6 w6 I hb6 => ?_
      obtain ⟨u', Iu⟩ := I.scr (bodyLk Try.f10 0) (scrF 124 q0K) (q0V (.slice ad l.length cap) (.slice (some ⟨g, off, none⟩) p.length capp) (i + 1)) [(0, rU h), (1, rU 0)] 2
      exact endL ⟨p.length - (i + 1), by omega, i + 1, β6, u', rfl, hil, step (by omega), Iu⟩
  · obtain rfl : i = p.length := by omega
    have hw : whB l.length p = true := whB_iff.2 hok
    refine goQ [lnI adp p.length capp, lF p.length p.length (by omega)] hR I fun β4 a4 w4 I hb4 => ?_
    refine endE 0 ?_
    refine goQ [] hR (I.exit _) fun β5 a5 w5 I hb5 => ?_
    let St1 : Nat → Act → World → Prop := fun k a w' => ∃ (i : Nat) (β : Nat → Nat) (u : Nat → Value), k = p.length - i ∧ i ≤ p.length ∧ (∀ j x, j < i → p[j]? = some x → plJ l x = true) ∧
      SI (GS w w w.heap.size noK (· < w.heap.size) [] []) (GF noK (· < w.heap.size) []) [] β (cfC (bodyLk Try.f10 1) (fillF (scrF 124 q1K) u 0 (q1V (.slice ad l.length cap) (.slice adp p.length capp) i)) [(0, rU h), (1, rU 0)] 2) a w'
    refine lpM (bodyLk Try.f10 1) St1 p.length ?_ ?_
    · obtain ⟨u, Iu⟩ := I.scr (bodyLk Try.f10 1) (scrF 124 q1K) (q1V (.slice ad l.length cap) (.slice adp p.length capp) 0) [(0, rU h), (1, rU 0)] 2
      exact ⟨0, β5, u, by omega, Nat.zero_le _, fun j x h => absurd h (Nat.not_lt_zero j), Iu⟩
    rintro k a6 w6 ⟨i, β6, u, rfl, hi, hpk, I⟩
    refine wp_cfC (tm := fillF (scrF 124 q1K) u 0 (q1V (.slice ad l.length cap) (.slice adp p.length capp) i)) (rows := [(0, rU h), (1, rU 0)]) (nx := 2) ?_
    rcases Nat.lt_or_ge i p.length with hil | hil
    · obtain ⟨x, k1⟩ : ∃ t, p[i]? = some t := ⟨_, List.getElem?_eq_getElem hil⟩
      have hxr := wh_range hw (List.mem_of_getElem? k1)
      obtain ⟨m, rfl⟩ : ∃ m : Nat, x = m := ⟨x.toNat, by omega⟩
      have hml : m < l.length := by omega
      obtain ⟨c, hc⟩ : ∃ t, l[m]? = some t := ⟨_, List.getElem?_eq_getElem hml⟩
      obtain ⟨g, off, cs, rfl, hlt, hca, rfl⟩ := hmp i _ k1
      obtain ⟨g2, off2, cs2, rfl, hlt2, hca2, rfl, _⟩ := hm m _ hc
      have hld : ∀ w', GS w w w.heap.size noK (· < w.heap.size) [] [] w' → (loadVar 3 ⟨g, off + i * 1, none⟩).run Try.prog w' = .ok (Z m) w' := fun w' hw => loadI (hca.keep (hw.bw.block g hlt))
      have hld2 : ∀ w', GS w w w.heap.size noK (· < w.heap.size) [] [] w' → (loadVar 3 ⟨g2, off2 + m * 8 + 5, none⟩).run Try.prog w' = .ok (Z c.2.2.1) w' := fun w' hw => loadK (hca2.keep (hw.bw.block g2 hlt2))
      have hpj : plJ l (m : Int) = decide (c.2.2.1 = 0) := by unfold plJ; rw [Int.toNat_natCast, getD_get hc]
      generalize c.2.2.1 = z at *
      by_cases hz : z = 0
      · refine goT (T := GS w w w.heap.size noK (· < w.heap.size) [] []) [lnI (some ⟨g, off, none⟩) p.length capp, lT i p.length (by omega), ixI g off p.length capp i hil, ldA 3 hld, ixA g2 off2 l.length cap m hml, ldA 3 hld2, bO .neq 3 (run_neqZ (x := z) (y := 0) (b := false) (decide_eq_false (not_not_intro hz))), p1 i (by omega)] hR (fun _ h => h) I fun β7 a7 w7 I hb7 => ?_
        obtain ⟨u', Iu⟩ := I.scr (bodyLk Try.f10 1) (scrF 124 q1K) (q1V (.slice (some ⟨g2, off2, none⟩) l.length cap) (.slice (some ⟨g, off, none⟩) p.length capp) (i + 1)) [(0, rU h), (1, rU 0)] 2
        refine endL ⟨p.length - (i + 1), by omega, i + 1, β7, u', rfl, hil, fun j y hj hy => ?_, Iu⟩
        rcases Nat.lt_or_ge j i with hji | hji
        · exact hpk j y hji hy
        · obtain rfl : j = i := by omega
          rw [k1] at hy; cases hy
          rw [hpj, decide_eq_true hz]
      · refine goT (T := GS w w w.heap.size noK (· < w.heap.size) [] []) [lnI (some ⟨g, off, none⟩) p.length capp, lT i p.length (by omega), ixI g off p.length capp i hil, ldA 3 hld, ixA g2 off2 l.length cap m hml, ldA 3 hld2, bO .neq 3 (run_neqZ (x := z) (y := 0) (b := true) (decide_eq_true hz))] hR (fun _ h => h) I fun β7 a7 w7 I hb7 => ?_
        refine goQ [] hR I fun β6 a6 w6 I hb6 => ?_
        refine dwR (T := fun _ => True) 4 8 1 72 h [(0, rU h)] [] [] (fun _ _ _ => True) (fun _ _ _ _ _ _ => trivial) hR (fun _ _ => trivial) I (fun q hq => (by cases hq)) fun vs a7 w7 _ I => ?_
        refine goQ [] hR I fun β8 a8 w8 I hb8 => ?_
        have er := rfE_two hw (List.mem_of_getElem? k1) (by rw [hpj, decide_eq_false hz])
        exact endR (ret4 (v := .tuple #[(.slice (some ⟨g2, off2, none⟩) l.length cap), .slice none 0 0, U h, Z 2]) I (hP (.inl ⟨by rw [er]; decide, by rw [er], I.hJ.bw⟩)))
    · obtain rfl : i = p.length := by omega
      have hz : rfE l p = 0 := rfE_zero hw fun x hx => by
        obtain ⟨j, hj⟩ := List.mem_iff_getElem?.1 hx
        exact hpk j x (List.getElem?_eq_some_iff.1 hj).1 hj
      refine goQ [lnI adp p.length capp, lF p.length p.length (by omega)] hR I fun β7 a7 w7 I hb7 => ?_
      refine endE 2 ?_
      refine goQ [] hR (I.exit _) fun β8 a8 w8 I hb8 => ?_
      refine mcall (f := 13) (ss := [Sum.inl (U h), Sum.inl (.slice ad l.length cap)]) Try.func13 I ((rafford_any (hv'.below C8.loc I.hJ.bw) hl hh).mono fun e w9 he => ?_)
      obtain ⟨vc, rfl, hn⟩ := he
      obtain ⟨K, I⟩ := I.gs hn vc
      obtain ⟨adc, capc, hvc⟩ := (I.hJ.at 0 (f := nuF vc (cvL h l)) rfl).slice
      rw [cvL_len] at hvc
      subst hvc
      refine goQ [] (GS.rsr _ _ _ _ _ _ _) ((I.nil 24 4).nil 42 8) fun β10 a10 w10 I hb10 => ?_
      let St2 : Nat → Act → World → Prop := fun k a w' => ∃ (i : Nat) (β : Nat → Nat) (u : Nat → Value) (ad1 ad2 : Option Addr) (cap1 cap2 : Nat), k = l.length - i ∧ i ≤ l.length ∧
        SI (GS w w w.heap.size noK K ([nuF (.slice adc l.length capc) (cvL h l)] ++ []) [alO (.slice ad1 i cap1) ((rsL h l p).take i), nuO (.slice ad2 i cap2) ((pdL h l p).take i)]) (GF noK K [alO (.slice ad1 i cap1) ((rsL h l p).take i), nuO (.slice ad2 i cap2) ((pdL h l p).take i)]) [] β (cfC (bodyLk Try.f10 2) (fillF (scrF 124 q2K) u 0 (q2V (.slice ad l.length cap) (.slice adp p.length capp) (.slice adc l.length capc) (.slice ad1 i cap1) (.slice ad2 i cap2) i)) [(0, rU (hdN h l p i)), (1, rU 0)] 2) a w'
      refine lpM (bodyLk Try.f10 2) St2 l.length ?_ ?_
      · obtain ⟨u, Iu⟩ := I.scr (bodyLk Try.f10 2) (scrF 124 q2K) (q2V (.slice ad l.length cap) (.slice adp p.length capp) (.slice adc l.length capc) (.slice none 0 0) (.slice none 0 0) 0) [(0, rU h), (1, rU 0)] 2
        exact ⟨0, β10, u, none, none, 0, 0, by omega, Nat.zero_le _, by rw [show hdN h l p 0 = h by simp [hdN]]; exact Iu⟩
      rintro k a11 w11 ⟨i, β11, u, ad1, ad2, cap1, cap2, rfl, hi, I⟩
      refine wp_cfC (tm := fillF (scrF 124 q2K) u 0 (q2V (.slice ad l.length cap) (.slice adp p.length capp) (.slice adc l.length capc) (.slice ad1 i cap1) (.slice ad2 i cap2) i)) (rows := [(0, rU (hdN h l p i)), (1, rU 0)]) (nx := 2) ?_
      have hRs := GS.rsr w w w.heap.size noK K ([nuF (.slice adc l.length capc) (cvL h l)] ++ []) [alO (.slice ad1 i cap1) ((rsL h l p).take i), nuO (.slice ad2 i cap2) ((pdL h l p).take i)]
      rcases Nat.lt_or_ge i l.length with hil | hil
      · obtain ⟨x, hx⟩ : ∃ t, l[i]? = some t := ⟨_, List.getElem?_eq_getElem hil⟩
        obtain ⟨g, off, cs, rfl, hlt, hca, rfl, hxl⟩ := hm i _ hx
        have hld : ∀ w', GS w w w.heap.size noK K ([nuF (.slice adc l.length capc) (cvL h l)] ++ []) [alO (.slice ad1 i cap1) ((rsL h l p).take i), nuO (.slice ad2 i cap2) ((pdL h l p).take i)] w' → (loadVar 42 ⟨g, off + i * 8, none⟩).run Try.prog w' = .ok (alV x) w' := fun w' hw => loadAl (hca.keep (hw.bw.block g hlt))
        have hcv := cvL_get h hx
        obtain ⟨gc, offc, rfl⟩ : ∃ gc offc, adc = some ⟨gc, offc, none⟩ := by
          obtain ⟨ad', cap', he, hmc⟩ := I.hJ.at 0 (f := nuF (.slice adc l.length capc) (cvL h l)) rfl
          rw [cvL_len] at he
          cases he
          obtain ⟨gc, offc, cs, h1, _⟩ := hmc i _ hcv
          exact ⟨gc, offc, h1⟩
        have hldc : ∀ w', GS w w w.heap.size noK K ([nuF (.slice (some ⟨gc, offc, none⟩) l.length capc) (cvL h l)] ++ []) [alO (.slice ad1 i cap1) ((rsL h l p).take i), nuO (.slice ad2 i cap2) ((pdL h l p).take i)] w' → (loadVar 24 ⟨gc, offc + i * 4, none⟩).run Try.prog w' = .ok (U (shN h l i x)) w' := fun w' hw => by
          obtain ⟨ad', cap', he, hmc⟩ := hw.at 0 (f := nuF (.slice (some ⟨gc, offc, none⟩) l.length capc) (cvL h l)) rfl
          rw [cvL_len] at he
          cases he
          obtain ⟨g', off', cs, he2, _, hcc, rfl, _⟩ := hmc i _ hcv
          cases he2
          exact loadNu hcc
        have hT1 := take_get (rsL_get h p hx)
        have hT2 := take_get (pdL_get h p hx)
        obtain ⟨hle, hhd⟩ := hd_step h p hx
        have hs1 := subOk rsub_any hxl (Nat.le_trans (pdN_le h l p i x) (shN_le h l i x).2)
        have hs2 := subOk rsub_any (hd_lt hh l p i) hle
        have hpn : pdN h l p i x = if x.2.2.1 = 0 ∧ nmB p i = true then shN h l i x else 0 := rfl
        rw [← hhd] at hs2
        have hnm := fun (w' : World) (hw : GS w w w.heap.size noK K ([nuF (.slice (some ⟨gc, offc, none⟩) l.length capc) (cvL h l)] ++ []) [alO (.slice ad1 i cap1) ((rsL h l p).take i), nuO (.slice ad2 i cap2) ((pdL h l p).take i)] w') => rnamed_any (hp'.below C1.loc hw.bw) hpl (i : Int)
        obtain ⟨d, am, kd, le, ri⟩ := x
        unfold rsX at hT1
        unfold alV al8 at hld
        simp only [] at hT1 hs1 hpn hxl hld
        obtain ⟨hd1, hhd1⟩ : ∃ z, hdN h l p (i + 1) = z := ⟨_, rfl⟩
        rw [hhd1] at hs2
        obtain ⟨pd, hpd⟩ : ∃ z, pdN h l p i (d, am, kd, le, ri) = z := ⟨_, rfl⟩
        rw [hpd] at hT1 hT2 hs1 hs2 hpn
        generalize shN h l i (d, am, kd, le, ri) = sh at *
        generalize hdN h l p i = hd0 at *
        cases hq : nmB p i with
        | true =>
          rw [hq] at hnm
          by_cases hk : kd = 0
          · obtain rfl : pd = sh := by rw [hpn, if_pos ⟨hk, hq⟩]
            refine goT (T := GS w w w.heap.size noK K ([nuF (.slice (some ⟨gc, offc, none⟩) l.length capc) (cvL h l)] ++ []) [alO (.slice ad1 i cap1) ((rsL h l p).take i), nuO (.slice ad2 i cap2) ((pdL h l p).take i)]) [lnA (some ⟨g, off, none⟩) l.length cap, lT i l.length (by omega), ixA g off l.length cap i hil, ldA 42 hld, dO 24 [] bd_Uz, cA Try.func22 hnm, bO .eql 3 (run_eqlZ (x := kd) (y := 0) (b := true) (decide_eq_true hk)), ixU gc offc l.length capc i hil, ldA 24 hldc, kC Try.func23 hs1, kC Try.func23 hs2] hRs (fun _ h => h) I fun β12 a12 w12 I hb12 => ?_
            refine app_al [] _ (d, am - pd, kd, le, ri) hT1 I (by rw [List.length_take, rsL_len]; omega) (by omega) fun ad9 cap9 a13 w13 I => ?_
            refine goQ [] (GS.rsr _ _ _ _ _ _ _) I fun β14 a14 w14 I hb14 => ?_
            refine app_nu [alO (.slice ad9 (i + 1) cap9) ((rsL h l p).take (i + 1))] [] pd hT2 I (by rw [List.length_take, pdL_len]; omega) (by omega) fun ad12 cap12 a15 w15 I => ?_
            refine goQ [p1 i (by omega)] (GS.rsr _ _ _ _ _ _ _) I fun β16 a16 w16 I hb16 => ?_
            obtain ⟨u', Iu⟩ := I.scr (bodyLk Try.f10 2) (scrF 124 q2K) (q2V (.slice (some ⟨g, off, none⟩) l.length cap) (.slice adp p.length capp) (.slice (some ⟨gc, offc, none⟩) l.length capc) (.slice ad9 (i + 1) cap9) (.slice ad12 (i + 1) cap12) (i + 1)) [(0, rU hd1), (1, rU 0)] 2
            exact endL ⟨l.length - (i + 1), by omega, i + 1, β16, u', ad9, ad12, cap9, cap12, rfl, hil, by rw [hhd1]; exact Iu⟩
          · obtain rfl : pd = 0 := by rw [hpn, if_neg fun q => hk q.1]
            refine goT (T := GS w w w.heap.size noK K ([nuF (.slice (some ⟨gc, offc, none⟩) l.length capc) (cvL h l)] ++ []) [alO (.slice ad1 i cap1) ((rsL h l p).take i), nuO (.slice ad2 i cap2) ((pdL h l p).take i)]) [lnA (some ⟨g, off, none⟩) l.length cap, lT i l.length (by omega), ixA g off l.length cap i hil, ldA 42 hld, dO 24 [] bd_Uz, cA Try.func22 hnm, bO .eql 3 (run_eqlZ (x := kd) (y := 0) (b := false) (decide_eq_false hk)), kC Try.func23 hs1, kC Try.func23 hs2] hRs (fun _ h => h) I fun β12 a12 w12 I hb12 => ?_
            refine app_al [] _ (d, am - 0, kd, le, ri) hT1 I (by rw [List.length_take, rsL_len]; omega) (by omega) fun ad9 cap9 a13 w13 I => ?_
            refine goQ [] (GS.rsr _ _ _ _ _ _ _) I fun β14 a14 w14 I hb14 => ?_
            refine app_nu [alO (.slice ad9 (i + 1) cap9) ((rsL h l p).take (i + 1))] [] 0 hT2 I (by rw [List.length_take, pdL_len]; omega) (by omega) fun ad12 cap12 a15 w15 I => ?_
            refine goQ [p1 i (by omega)] (GS.rsr _ _ _ _ _ _ _) I fun β16 a16 w16 I hb16 => ?_
            obtain ⟨u', Iu⟩ := I.scr (bodyLk Try.f10 2) (scrF 124 q2K) (q2V (.slice (some ⟨g, off, none⟩) l.length cap) (.slice adp p.length capp) (.slice (some ⟨gc, offc, none⟩) l.length capc) (.slice ad9 (i + 1) cap9) (.slice ad12 (i + 1) cap12) (i + 1)) [(0, rU hd1), (1, rU 0)] 2
            exact endL ⟨l.length - (i + 1), by omega, i + 1, β16, u', ad9, ad12, cap9, cap12, rfl, hil, by rw [hhd1]; exact Iu⟩
        | false =>
          rw [hq] at hnm
          obtain rfl : pd = 0 := by rw [hpn, if_neg fun q => by rw [hq] at q; cases q.2]
          refine goT (T := GS w w w.heap.size noK K ([nuF (.slice (some ⟨gc, offc, none⟩) l.length capc) (cvL h l)] ++ []) [alO (.slice ad1 i cap1) ((rsL h l p).take i), nuO (.slice ad2 i cap2) ((pdL h l p).take i)]) [lnA (some ⟨g, off, none⟩) l.length cap, lT i l.length (by omega), ixA g off l.length cap i hil, ldA 42 hld, dO 24 [] bd_Uz, cA Try.func22 hnm, kC Try.func23 hs1, kC Try.func23 hs2] hRs (fun _ h => h) I fun β12 a12 w12 I hb12 => ?_
          refine app_al [] _ (d, am - 0, kd, le, ri) hT1 I (by rw [List.length_take, rsL_len]; omega) (by omega) fun ad9 cap9 a13 w13 I => ?_
          refine goQ [] (GS.rsr _ _ _ _ _ _ _) I fun β14 a14 w14 I hb14 => ?_
          refine app_nu [alO (.slice ad9 (i + 1) cap9) ((rsL h l p).take (i + 1))] [] 0 hT2 I (by rw [List.length_take, pdL_len]; omega) (by omega) fun ad12 cap12 a15 w15 I => ?_
          refine goQ [p1 i (by omega)] (GS.rsr _ _ _ _ _ _ _) I fun β16 a16 w16 I hb16 => ?_
          obtain ⟨u', Iu⟩ := I.scr (bodyLk Try.f10 2) (scrF 124 q2K) (q2V (.slice (some ⟨g, off, none⟩) l.length cap) (.slice adp p.length capp) (.slice (some ⟨gc, offc, none⟩) l.length capc) (.slice ad9 (i + 1) cap9) (.slice ad12 (i + 1) cap12) (i + 1)) [(0, rU hd1), (1, rU 0)] 2
          exact endL ⟨l.length - (i + 1), by omega, i + 1, β16, u', ad9, ad12, cap9, cap12, rfl, hil, by rw [hhd1]; exact Iu⟩
      · obtain rfl : i = l.length := by omega
        refine goQ [lnA ad l.length cap, lF l.length l.length (by omega)] hRs I fun β12 a12 w12 I hb12 => ?_
        refine endE 4 ?_
        refine goQ [] hRs (I.exit _) fun β13 a13 w13 I hb13 => ?_
        refine dwR (T := fun _ => True) 5 8 1 123 (hdN h l p l.length) [(0, rU (hdN h l p l.length))] [] [] (fun _ _ _ => True) (fun _ _ _ _ _ _ => trivial) hRs (fun _ _ => trivial) I (fun q hq => (by cases hq)) fun vs a14 w14 _ I => ?_
        refine goQ [] hRs I fun β15 a15 w15 I hb15 => ?_
        have hJ := I.hJ
        have e1 : (rsL h l p).take l.length = rsL h l p := by rw [← rsL_len h l p, List.take_length]
        have e2 : (pdL h l p).take l.length = pdL h l p := by rw [← pdL_len h l p, List.take_length]
        rw [e1, e2] at hJ
        have e3 := hd_all h l p
        exact out4 (v := .tuple #[.slice ad1 l.length cap1, .slice ad2 l.length cap2, U (hdN h l p l.length), Z 0]) I (hP (.inr ⟨hz, _, _, by rw [e3], (hJ.fin0 (Nat.le_refl _)).new2 (rsL_lt hlW h p) (pdL_lt hh l p)⟩))
end Go.Proofs.Ytabghfcjpaileaa
