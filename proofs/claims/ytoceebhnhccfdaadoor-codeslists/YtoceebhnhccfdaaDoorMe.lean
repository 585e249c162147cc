/- The document's hex, digit, unhex. -/
import Derived.Test.YtoceebhnhccfdaaDoorKn
namespace Go.Proofs.YtoceebhnhccfdaaDoor
open Go.RowKit Go.Sort Go.Shelf
set_option linter.unusedVariables false
set_option maxRecDepth 100000
theorem run_quo16 (x : UInt8) (o1 o2 : Operand) (w : World) : (do eqGuard .quo 5 o1 o2 (.int .u8 (x.toNat : Nat)) (.int .u8 16); binOp .quo 5 (.int .u8 (x.toNat : Nat)) (.int .u8 16) : Sem Value).run Tryd.prog w = .ok (b8 (x.toNat / 16)) w := by
  have h := x.toNat_lt
  simp [go_sem]
  exact wrap8 (by omega) (by omega)
theorem run_rem16 (x : UInt8) (o1 o2 : Operand) (w : World) : (do eqGuard .rem 5 o1 o2 (.int .u8 (x.toNat : Nat)) (.int .u8 16); binOp .rem 5 (.int .u8 (x.toNat : Nat)) (.int .u8 16) : Sem Value).run Tryd.prog w = .ok (b8 (x.toNat % 16)) w := by
  have e : (x.toNat : Int).tmod 16 = ((x.toNat % 16 : Nat) : Int) := by rw [Int.tmod_eq_emod_of_nonneg (by omega)]; omega
  simp [go_sem, e]
abbrev rhK : List Nat := [0, 2, 3, 4, 5]
abbrev rhW (s : List UInt8) (v : Value) (i : Nat) : Vs := frm 29 [(0, Sum.inl (str s)), (2, Sum.inl (str [])), (3, Sum.inl v), (4, Sum.inl (str dig16)), (5, Sum.inl (Z i))]
set_option maxHeartbeats 4000000 in
theorem rhex_any (s : List UInt8) (hs : s.length < 100000000) (w : World) : Calls Tryd.prog 34 #[str s] w fun e w' => e = .returned (str (hexL s)) ∧ RowKit.Below w.heap.size w w' := by
  refine inQ (J := BJ w (.slice none 0 0) []) (F := BF w (.slice none 0 0)) Tryd.func34 (BJ.nil (RowKit.Below.refl _ _)) fun a I => ?_
  refine goQ [] (BJ.rs _ _ _) I fun β a w3 I3 hb => ?_
  let St : Nat → Act → World → Prop := fun k a w' => ∃ (i : Nat) (β : Nat → Nat) (u : Nat → Value) (ad : Option Addr) (cap : Nat), k = s.length - i ∧ i ≤ s.length ∧ SI (BJ w (.slice ad (hexL (s.take i)).length cap) (hexL (s.take i))) (BF w (.slice ad (hexL (s.take i)).length cap)) [] β (cfC (bodyL Tryd.f34) (fillF (scrF 29 rhK) u 0 (rhW s (.slice ad (hexL (s.take i)).length cap) i)) [] 0) a w'
  refine lpM (bodyL Tryd.f34) St s.length ?_ ?_
  · obtain ⟨u, Iu⟩ := I3.scr (bodyL Tryd.f34) (scrF 29 rhK) (rhW s (.slice none 0 0) 0) [] 0
    exact ⟨0, β, u, none, 0, by omega, Nat.zero_le _, Iu⟩
  rintro k a3 w3 ⟨i, β3, u, ad, cap, rfl, hi, I4⟩
  refine wp_cfC (tm := fillF (scrF 29 rhK) u 0 (rhW s (.slice ad (hexL (s.take i)).length cap) i)) (rows := []) (nx := 0) ?_
  rcases Nat.lt_or_ge i s.length with hil | hil
  · obtain ⟨x, hx⟩ : ∃ x, s[i]? = some x := ⟨_, List.getElem?_eq_getElem hil⟩
    have hxl := x.toNat_lt
    have hlen : (hexL (s.take i)).length = 2 * i := by rw [hexL_len, List.length_take, Nat.min_eq_left hi]
    have htk := hexL_take hx
    have hd1 := dgO_get (x.toNat / 16) (by omega)
    have hd2 := dgO_get (x.toNat % 16) (by omega)
    unfold hex2 at htk
    generalize dgO (x.toNat / 16) = d1 at *
    generalize dgO (x.toNat % 16) = d2 at *
    generalize hexL (s.take i) = l at *
    refine goQ [lnO s, bO .lss 3 (run_lssZ (x := i) (y := s.length) (b := true) (by simp; omega))] (BJ.rs _ _ _) I4 fun β5 a5 w5 I5 hb5 => ?_
    refine dwQ 13 [iO 9 (p := str s) (i := Z i) (v := b8 x.toNat) (idx_run hx), bO .quo 5 (run_quo16 x), iO 9 (p := str dig16) (i := b8 (x.toNat / 16)) (v := b8 d1.toNat) (idx8_run hd1), iO 9 (p := str s) (i := Z i) (v := b8 x.toNat) (idx_run hx), bO .rem 5 (run_rem16 x), iO 9 (p := str dig16) (i := b8 (x.toNat % 16)) (v := b8 d2.toNat) (idx8_run hd2)] (BJ.rs _ _ _) (PanOk.then PanOk.post.qk) I5 fun a6 w6 I6 => ?_
    refine app_bytes [d1, d2] [(0, Sum.inl (b8 d1.toNat)), (1, Sum.inl (b8 d2.toNat))] 2 rfl (bs2 d1 d2 w6) I6 (by simp) (by rw [hlen]; simp; omega) fun ad8 cap8 a8 w8 I8 => ?_
    refine goQ [bO .add 3 (run_addZ (x := i) (y := 1) (z := (i + 1 : Nat)) (by rw [wz (by omega) (by omega)]; omega))] (BJ.rs _ _ _) I8 fun β9 a9 w9 I9 hb9 => ?_
    obtain ⟨u', Iu⟩ := I9.scr (bodyL Tryd.f34) (scrF 29 rhK) (rhW s (.slice ad8 (l ++ [d1, d2]).length cap8) (i + 1)) [] 0
    refine endL ⟨s.length - (i + 1), by omega, i + 1, β9, u', ad8, cap8, rfl, hil, ?_⟩
    rw [htk]
    exact Iu
  · obtain rfl : i = s.length := by omega
    rw [List.take_length] at I4 ⊢
    refine goQ [lnO s, bO .lss 3 (run_lssZ (x := s.length) (y := s.length) (b := false) (by simp))] (BJ.rs _ _ _) I4 fun β5 a5 w5 I5 hb5 => ?_
    refine endE 0 ?_
    refine goQ [] (BJ.rs _ _ _) (I5.exit _) fun β6 a6 w6 I6 hb6 => ?_
    refine cnvQ I6 (text_own I6.hJ.own) ?_
    have I7 := I6.same (str (hexL s))
    refine goQ [] (BJ.rs _ _ _) I7 fun β8 a8 w8 I8 hb8 => ?_
    exact outQ (v := str (hexL s)) I8 ⟨rfl, I8.hJ.below⟩
theorem rdigit_any (b : UInt8) (w : World) : Calls Tryd.prog 44 #[b8 b.toNat] w fun e w' => e = .returned (Z (dgZ b)) ∧ RowKit.Below w.heap.size w w' := by
  have hb := b.toNat_lt
  have hz : dgZ b = if 48 ≤ b.toNat ∧ b.toNat ≤ 57 then ((b.toNat - 48 : Nat) : Int) else if 97 ≤ b.toNat ∧ b.toNat ≤ 102 then ((b.toNat - 87 : Nat) : Int) else -1 := by
    unfold dgZ dgv
    by_cases h1 : 48 ≤ b.toNat ∧ b.toNat ≤ 57
    · rw [if_pos h1, if_pos h1]
    · rw [if_neg h1, if_neg h1]
      by_cases h2 : 97 ≤ b.toNat ∧ b.toNat ≤ 102
      · rw [if_pos h2, if_pos h2]
      · rw [if_neg h2, if_neg h2]
  rw [hz]
  generalize b.toNat = n at *
  refine inQ (J := RowKit.Below w.heap.size w) (F := (· < w.heap.size)) Tryd.func44 (RowKit.Below.refl _ _) fun a I => ?_
  by_cases a1 : 48 ≤ n
  · by_cases a2 : n ≤ 57
    · rw [if_pos ⟨a1, a2⟩]
      refine goQ [bO .geq 5 (run_geq8 (x := n) (y := 48) (b := true) (by simp; omega)), bO .leq 5 (run_leq8 (x := n) (y := 57) (b := true) (by simp; omega)), bO .sub 5 (run_sub8 (x := n) (y := 48) (z := (n - 48 : Nat)) (by rw [wrap8 (by omega) (by omega)]; omega)), vO 5 3 (cnv8Z (n - 48) (by omega))] (nonR w) I fun β a w1 I1 hb => ?_
      exact outQ (v := Z (n - 48 : Nat)) I1 ⟨rfl, I1.hJ⟩
    · rw [if_neg (by omega)]
      by_cases a3 : 97 ≤ n
      · by_cases a4 : n ≤ 102
        · rw [if_pos ⟨a3, a4⟩]
          refine goQ [bO .geq 5 (run_geq8 (x := n) (y := 48) (b := true) (by simp; omega)), bO .leq 5 (run_leq8 (x := n) (y := 57) (b := false) (by simp; omega)), bO .geq 5 (run_geq8 (x := n) (y := 97) (b := true) (by simp; omega)), bO .leq 5 (run_leq8 (x := n) (y := 102) (b := true) (by simp; omega)), bO .sub 5 (run_sub8 (x := n) (y := 97) (z := (n - 97 : Nat)) (by rw [wrap8 (by omega) (by omega)]; omega)), vO 5 3 (cnv8Z (n - 97) (by omega)), bO .add 3 (run_addZ (x := (n - 97 : Nat)) (y := 10) (z := (n - 87 : Nat)) (by rw [wz (by omega) (by omega)]; omega))] (nonR w) I fun β a w1 I1 hb => ?_
          exact outQ (v := Z (n - 87 : Nat)) I1 ⟨rfl, I1.hJ⟩
        · rw [if_neg (by omega)]
          refine goQ [bO .geq 5 (run_geq8 (x := n) (y := 48) (b := true) (by simp; omega)), bO .leq 5 (run_leq8 (x := n) (y := 57) (b := false) (by simp; omega)), bO .geq 5 (run_geq8 (x := n) (y := 97) (b := true) (by simp; omega)), bO .leq 5 (run_leq8 (x := n) (y := 102) (b := false) (by simp; omega))] (nonR w) I fun β a w1 I1 hb => ?_
          exact outQ (v := Z (-1)) I1 ⟨rfl, I1.hJ⟩
      · rw [if_neg (by omega)]
        refine goQ [bO .geq 5 (run_geq8 (x := n) (y := 48) (b := true) (by simp; omega)), bO .leq 5 (run_leq8 (x := n) (y := 57) (b := false) (by simp; omega)), bO .geq 5 (run_geq8 (x := n) (y := 97) (b := false) (by simp; omega))] (nonR w) I fun β a w1 I1 hb => ?_
        exact outQ (v := Z (-1)) I1 ⟨rfl, I1.hJ⟩
  · rw [if_neg (by omega), if_neg (by omega)]
    refine goQ [bO .geq 5 (run_geq8 (x := n) (y := 48) (b := false) (by simp; omega)), bO .geq 5 (run_geq8 (x := n) (y := 97) (b := false) (by simp; omega))] (nonR w) I fun β a w1 I1 hb => ?_
    exact outQ (v := Z (-1)) I1 ⟨rfl, I1.hJ⟩
/-- So many bytes of just as many digits. -/
def uxV (s : List UInt8) (n : Nat) : List UInt8 × Bool := if s.length = 2 * n then (match uxL s with | some t => (t, true) | none => ([], false)) else ([], false)
abbrev uhK : List Nat := [0, 1, 4, 5, 6, 7]
abbrev uhW (s : List UInt8) (n : Nat) (v : Value) (i : Nat) : Vs := frm 47 [(0, Sum.inl (str s)), (1, Sum.inl (Z n)), (4, Sum.inl (str [])), (5, Sum.inl (.bool false)), (6, Sum.inl v), (7, Sum.inl (Z i))]
set_option maxHeartbeats 4000000 in
theorem runhex_any (s : List UInt8) (hs : s.length < 100000000) (n : Nat) (hn : n < 1000) (w : World) : Calls Tryd.prog 30 #[str s, Z n] w fun e w' => e = .returned (.tuple #[str (uxV s n).1, .bool (uxV s n).2]) ∧ RowKit.Below w.heap.size w w' := by
  refine inQ (J := BJ w (.slice none 0 0) []) (F := BF w (.slice none 0 0)) Tryd.func30 (BJ.nil (RowKit.Below.refl _ _)) fun a I => ?_
  unfold uxV
  by_cases hl : s.length = 2 * n
  · rw [if_pos hl]
    refine goQ [lnO s, bO .mul 3 (run_mulZ (x := 2) (y := n) (z := (2 * n : Nat)) (by rw [wz (by omega) (by omega)]; omega)), bO .neq 3 (run_neqZ (x := s.length) (y := (2 * n : Nat)) (b := false) (by simp; omega))] (BJ.rs _ _ _) I fun β a w3 I3 hb => ?_
    let St : Nat → Act → World → Prop := fun k a w' => ∃ (i : Nat) (l : List UInt8) (β : Nat → Nat) (u : Nat → Value) (ad : Option Addr) (cap : Nat), k = n - i ∧ i ≤ n ∧ l.length = i ∧ uxL s = (uxL (s.drop (2 * i))).map (l ++ ·) ∧ SI (BJ w (.slice ad l.length cap) l) (BF w (.slice ad l.length cap)) [] β (cfC (bodyL Tryd.f30) (fillF (scrF 47 uhK) u 0 (uhW s n (.slice ad l.length cap) i)) [] 0) a w'
    refine lpM (bodyL Tryd.f30) St n ?_ ?_
    · obtain ⟨u, Iu⟩ := I3.scr (bodyL Tryd.f30) (scrF 47 uhK) (uhW s n (.slice none 0 0) 0) [] 0
      exact ⟨0, [], β, u, none, 0, by omega, Nat.zero_le _, rfl, by simp, Iu⟩
    rintro k a3 w3 ⟨i, l, β3, u, ad, cap, rfl, hi, hil2, hux, I4⟩
    refine wp_cfC (tm := fillF (scrF 47 uhK) u 0 (uhW s n (.slice ad l.length cap) i)) (rows := []) (nx := 0) ?_
    rcases Nat.lt_or_ge i n with hil | hil
    · obtain ⟨x, hx⟩ : ∃ x, s[2 * i]? = some x := ⟨_, List.getElem?_eq_getElem (by omega)⟩
      obtain ⟨y, hy⟩ : ∃ y, s[2 * i + 1]? = some y := ⟨_, List.getElem?_eq_getElem (by omega)⟩
      have hix := rdigit_any x
      have hiy := rdigit_any y
      rw [drop2 hx hy] at hux
      simp only [uxL] at hux
      cases hdx : dgv x with
      | none =>
        rw [hdx] at hux
        have hz : dgZ x = -1 := by unfold dgZ; rw [hdx]
        rw [hz] at hix
        rw [hux]
        generalize dgZ y = zy at *
        refine goQ [bO .lss 3 (run_lssZ (x := i) (y := n) (b := true) (by simp; omega)), bO .mul 3 (run_mulZ (x := 2) (y := i) (z := (2 * i : Nat)) (by rw [wz (by omega) (by omega)]; omega)), iO 9 (p := str s) (i := Z (2 * i : Nat)) (v := b8 x.toNat) (idx_run hx), kC Tryd.func44 hix, bO .mul 3 (run_mulZ (x := 2) (y := i) (z := (2 * i : Nat)) (by rw [wz (by omega) (by omega)]; omega)), bO .add 3 (run_addZ (x := (2 * i : Nat)) (y := 1) (z := (2 * i + 1 : Nat)) (by rw [wz (by omega) (by omega)]; omega)), iO 9 (p := str s) (i := Z (2 * i + 1 : Nat)) (v := b8 y.toNat) (idx_run hy), kC Tryd.func44 hiy, bO .lss 3 (run_lssZ (x := -1) (y := 0) (b := true) (by decide))] (BJ.rs _ _ _) I4 fun β5 a5 w5 I5 hb5 => ?_
        exact endR (retV (v := .tuple #[str [], .bool false]) I5 ⟨rfl, I5.hJ.below⟩)
      | some dx =>
        have hz : dgZ x = dx := by unfold dgZ; rw [hdx]
        rw [hz] at hix
        have hdl := dgv_lt hdx
        cases hdy : dgv y with
        | none =>
          rw [hdx, hdy] at hux
          have hz : dgZ y = -1 := by unfold dgZ; rw [hdy]
          rw [hz] at hiy
          rw [hux]
          refine goQ [bO .lss 3 (run_lssZ (x := i) (y := n) (b := true) (by simp; omega)), bO .mul 3 (run_mulZ (x := 2) (y := i) (z := (2 * i : Nat)) (by rw [wz (by omega) (by omega)]; omega)), iO 9 (p := str s) (i := Z (2 * i : Nat)) (v := b8 x.toNat) (idx_run hx), kC Tryd.func44 hix, bO .mul 3 (run_mulZ (x := 2) (y := i) (z := (2 * i : Nat)) (by rw [wz (by omega) (by omega)]; omega)), bO .add 3 (run_addZ (x := (2 * i : Nat)) (y := 1) (z := (2 * i + 1 : Nat)) (by rw [wz (by omega) (by omega)]; omega)), iO 9 (p := str s) (i := Z (2 * i + 1 : Nat)) (v := b8 y.toNat) (idx_run hy), kC Tryd.func44 hiy, bO .lss 3 (run_lssZ (x := dx) (y := 0) (b := false) (by simp)), bO .lss 3 (run_lssZ (x := -1) (y := 0) (b := true) (by decide))] (BJ.rs _ _ _) I4 fun β5 a5 w5 I5 hb5 => ?_
          exact endR (retV (v := .tuple #[str [], .bool false]) I5 ⟨rfl, I5.hJ.below⟩)
        | some dy =>
          have hz : dgZ y = dy := by unfold dgZ; rw [hdy]
          rw [hz] at hiy
          have hdl2 := dgv_lt hdy
          refine goQ [bO .lss 3 (run_lssZ (x := i) (y := n) (b := true) (by simp; omega)), bO .mul 3 (run_mulZ (x := 2) (y := i) (z := (2 * i : Nat)) (by rw [wz (by omega) (by omega)]; omega)), iO 9 (p := str s) (i := Z (2 * i : Nat)) (v := b8 x.toNat) (idx_run hx), kC Tryd.func44 hix, bO .mul 3 (run_mulZ (x := 2) (y := i) (z := (2 * i : Nat)) (by rw [wz (by omega) (by omega)]; omega)), bO .add 3 (run_addZ (x := (2 * i : Nat)) (y := 1) (z := (2 * i + 1 : Nat)) (by rw [wz (by omega) (by omega)]; omega)), iO 9 (p := str s) (i := Z (2 * i + 1 : Nat)) (v := b8 y.toNat) (idx_run hy), kC Tryd.func44 hiy, bO .lss 3 (run_lssZ (x := dx) (y := 0) (b := false) (by simp)), bO .lss 3 (run_lssZ (x := dy) (y := 0) (b := false) (by simp)), bO .mul 3 (run_mulZ (x := 16) (y := dx) (z := (16 * dx : Nat)) (by rw [wz (by omega) (by omega)]; omega)), bO .add 3 (run_addZ (x := (16 * dx : Nat)) (y := dy) (z := (16 * dx + dy : Nat)) (by rw [wz (by omega) (by omega)]; omega)), vO 3 5 (cnvZ8 (16 * dx + dy) (by omega))] (BJ.rs _ _ _) I4 fun β5 a5 w5 I5 hb5 => ?_
          have hbs := bs1 (UInt8.ofNat (16 * dx + dy)) w5
          rw [← u8n (16 * dx + dy) (by omega)] at hbs
          refine app_bytes [UInt8.ofNat (16 * dx + dy)] [(0, Sum.inl (b8 (16 * dx + dy)))] 1 rfl hbs I5 (by simp) (by simp; omega) fun ad8 cap8 a8 w8 I8 => ?_
          refine goQ [bO .add 3 (run_addZ (x := i) (y := 1) (z := (i + 1 : Nat)) (by rw [wz (by omega) (by omega)]; omega))] (BJ.rs _ _ _) I8 fun β9 a9 w9 I9 hb9 => ?_
          obtain ⟨u', Iu⟩ := I9.scr (bodyL Tryd.f30) (scrF 47 uhK) (uhW s n (.slice ad8 (l ++ [UInt8.ofNat (16 * dx + dy)]).length cap8) (i + 1)) [] 0
          refine endL ⟨n - (i + 1), by omega, i + 1, l ++ [UInt8.ofNat (16 * dx + dy)], β9, u', ad8, cap8, rfl, by omega, by simp; omega, ?_, Iu⟩
          rw [hux, hdx, hdy, show 2 * (i + 1) = 2 * i + 2 by omega]
          cases uxL (s.drop (2 * i + 2)) with
          | none => rfl
          | some t => simp
    · obtain rfl : i = n := by omega
      rw [List.drop_eq_nil_of_le (by omega)] at hux
      have hux' : uxL s = some l := by rw [hux]; simp [uxL]
      rw [hux']
      refine goQ [bO .lss 3 (run_lssZ (x := i) (y := i) (b := false) (by simp))] (BJ.rs _ _ _) I4 fun β5 a5 w5 I5 hb5 => ?_
      refine endE 0 ?_
      refine goQ [] (BJ.rs _ _ _) (I5.exit _) fun β6 a6 w6 I6 hb6 => ?_
      refine cnvQ I6 (text_own I6.hJ.own) ?_
      have I7 := I6.same (str l)
      refine goQ [] (BJ.rs _ _ _) I7 fun β8 a8 w8 I8 hb8 => ?_
      exact outQ (v := .tuple #[str l, .bool true]) I8 ⟨rfl, I8.hJ.below⟩
  · rw [if_neg hl]
    refine goQ [lnO s, bO .mul 3 (run_mulZ (x := 2) (y := n) (z := (2 * n : Nat)) (by rw [wz (by omega) (by omega)]; omega)), bO .neq 3 (run_neqZ (x := s.length) (y := (2 * n : Nat)) (b := true) (by simp; omega))] (BJ.rs _ _ _) I fun β a w3 I3 hb => ?_
    exact outQ (v := .tuple #[str [], .bool false]) I3 ⟨rfl, I3.hJ.below⟩
end Go.Proofs.YtoceebhnhccfdaaDoor
