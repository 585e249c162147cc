/- Digits back to bytes: the program's fromHex; CutPrefix; isGap. -/
import Derived.Test.YtoceebhnhccfdaaDoorKk
import Derived.Test.YtoceebhnhccfdaaDoorKf
namespace Go.Proofs.YtoceebhnhccfdaaDoor
open Go.RowKit Go.Sort Go.Shelf
set_option linter.unusedVariables false
set_option maxRecDepth 100000
/-- A digit's number. -/
def dgv (b : UInt8) : Option Nat := if 48 ≤ b.toNat ∧ b.toNat ≤ 57 then some (b.toNat - 48) else if 97 ≤ b.toNat ∧ b.toNat ≤ 102 then some (b.toNat - 87) else none
def dgZ (b : UInt8) : Int := match dgv b with
  | some n => n
  | none => -1
theorem dgv_lt {b : UInt8} {n : Nat} (h : dgv b = some n) : n < 16 := by
  unfold dgv at h
  split at h
  · cases h; omega
  · split at h
    · cases h; omega
    · cases h
theorem fd_eq : ∀ x : Fin 256, ((List.range 16).find? fun i => (⟨dig16.toArray⟩ : ByteArray)[i]! == UInt8.ofNat x.val) = dgv (UInt8.ofNat x.val) := by decide +kernel
theorem idxB (b : UInt8) (w : World) : (callFunc 62 #[str dig16, b8 b.toNat]).run Tryd.prog w = .ok (.value (Z (dgZ b))) w := by
  have h := fd_eq ⟨b.toNat, b.toNat_lt⟩
  simp only [UInt8.ofNat_toNat] at h
  have e : (callFunc 62 #[str dig16, b8 b.toNat]).run Tryd.prog w = ((match (List.range (⟨dig16.toArray⟩ : ByteArray).size).find? fun i => (⟨dig16.toArray⟩ : ByteArray)[i]! == ((b.toNat : Int).toNat).toUInt8 with
    | some i => pure (goInt i)
    | none => pure (goInt (-1)) : Sem Value) >>= fun v => pure (Next.value v)).run Tryd.prog w := by kernel_rfl
  rw [e]
  have hs : (⟨dig16.toArray⟩ : ByteArray).size = 16 := rfl
  have hc : ((b.toNat : Int).toNat).toUInt8 = b := by simp
  rw [hs, hc, h]
  unfold dgZ
  cases dgv b with
  | none => rfl
  | some n => rfl
theorem idx55 (b : UInt8) (w : World) : Calls Tryd.prog 55 #[str dig16, b8 b.toNat] w fun e w' => e = .returned (Z (dgZ b)) ∧ RowKit.Below w.heap.size w w' := by
  have hx := idxB b
  generalize dgZ b = z at *
  refine inQ (J := RowKit.Below w.heap.size w) (F := (· < w.heap.size)) Tryd.func55 (RowKit.Below.refl _ _) fun a I => ?_
  refine goQ [eO hx] (nonR w) I fun β a w1 I hb => ?_
  exact outQ (v := Z z) I ⟨rfl, I.hJ⟩
theorem idx49 (b : UInt8) (w : World) : Calls Tryd.prog 49 #[str dig16, b8 b.toNat] w fun e w' => e = .returned (Z (dgZ b)) ∧ RowKit.Below w.heap.size w w' := by
  have hx := idx55 b
  generalize dgZ b = z at *
  refine inQ (J := RowKit.Below w.heap.size w) (F := (· < w.heap.size)) Tryd.func49 (RowKit.Below.refl _ _) fun a I => ?_
  refine goQ [kC Tryd.func55 hx] (nonR w) I fun β a w1 I hb => ?_
  exact outQ (v := Z z) I ⟨rfl, I.hJ⟩
/-- Digits by twos. -/
def uxL : List UInt8 → Option (List UInt8)
  | [] => some []
  | [_] => none
  | h :: l :: r => match dgv h, dgv l, uxL r with
    | some a, some b, some t => some (UInt8.ofNat (16 * a + b) :: t)
    | _, _, _ => none
theorem uxL_len : ∀ (s t : List UInt8), uxL s = some t → s.length = 2 * t.length
  | [], t, h => by cases h; rfl
  | [_], t, h => by cases h
  | x :: y :: r, t, h => by
    simp only [uxL] at h
    split at h
    · next a b t' _ _ ht =>
      cases h
      have := uxL_len r t' ht
      simp only [List.length_cons]
      omega
    · cases h
theorem uxL_odd : ∀ (s : List UInt8), s.length % 2 = 1 → uxL s = none := by
  intro s h
  cases hu : uxL s with
  | none => rfl
  | some t => have := uxL_len s t hu; omega
theorem drop2 {s : List UInt8} {i : Nat} {x y : UInt8} (hx : s[i]? = some x) (hy : s[i + 1]? = some y) : s.drop i = x :: y :: s.drop (i + 2) := by
  have h1 := (List.getElem?_eq_some_iff.1 hx).1
  have h2 := (List.getElem?_eq_some_iff.1 hy).1
  rw [List.drop_eq_getElem_cons h1, List.drop_eq_getElem_cons h2, (List.getElem?_eq_some_iff.1 hx).2, (List.getElem?_eq_some_iff.1 hy).2]
theorem or16 : ∀ (a b : Fin 16), bits .or .i64 (IntKind.i64.wrap ((a.val : Int) * 2 ^ 4)) (b.val : Int) = ((16 * a.val + b.val : Nat) : Int) := by decide +kernel
theorem run_shl4 (a : Nat) (h : a < 16) (o1 o2 : Operand) (w : World) : (do eqGuard .shl 3 o1 o2 (Z a) (.int .u64 4); binOp .shl 3 (Z a) (.int .u64 4) : Sem Value).run Tryd.prog w = .ok (Z (16 * a : Nat)) w := by
  have : IntKind.i64.wrap ((a : Int) * 16) = (16 * a : Nat) := by rw [wz (by omega) (by omega)]; omega
  simp [go_sem, this]
theorem or16' : ∀ (a b : Fin 16), bits .or .i64 ((16 * a.val : Nat) : Int) (b.val : Int) = ((16 * a.val + b.val : Nat) : Int) := by decide +kernel
theorem run_or16 (a b : Nat) (ha : a < 16) (hb : b < 16) (o1 o2 : Operand) (w : World) : (do eqGuard .or 3 o1 o2 (Z (16 * a : Nat)) (Z b); binOp .or 3 (Z (16 * a : Nat)) (Z b) : Sem Value).run Tryd.prog w = .ok (Z (16 * a + b : Nat)) w := by
  have h := or16' ⟨a, ha⟩ ⟨b, hb⟩
  simp only [] at h
  simp only [go_sem, h]
  simp
abbrev fhK : List Nat := [0, 2, 3, 4]
abbrev fhW (s : List UInt8) (v : Value) (i : Nat) : Vs := frm 46 [(0, Sum.inl (str s)), (2, Sum.inl (str [])), (3, Sum.inl v), (4, Sum.inl (Z i))]
set_option maxHeartbeats 4000000 in
theorem fromHex_any (s : List UInt8) (hs : s.length < 100000000) (w : World) : Calls Tryd.prog 41 #[str s] w fun e w' => e = .returned (str ((uxL s).getD [])) ∧ RowKit.Below w.heap.size w w' := by
  refine inQ (J := RowKit.Below w.heap.size w) (F := (· < w.heap.size)) Tryd.func41 (RowKit.Below.refl _ _) fun a I => ?_
  by_cases hodd : s.length % 2 = 1
  · rw [uxL_odd s hodd]
    refine goQ [lnO s, bO .rem 3 (run_remZ (x := s.length) (y := 2) (z := 1) (by decide) (by rw [Int.tmod_eq_emod_of_nonneg (by omega)]; omega)), bO .neq 3 (run_neqZ (x := 1) (y := 0) (b := true) (by decide))] (nonR w) I fun β a w1 I1 hb => ?_
    exact outQ (v := str []) I1 ⟨rfl, I1.hJ⟩
  refine goQ [lnO s, bO .rem 3 (run_remZ (x := s.length) (y := 2) (z := 0) (by decide) (by rw [Int.tmod_eq_emod_of_nonneg (by omega)]; omega)), bO .neq 3 (run_neqZ (x := 0) (y := 0) (b := false) (by decide)), lnO s, bO .quo 3 (run_quoZ (x := s.length) (y := 2) (z := (s.length / 2 : Nat)) (by decide) (by rw [Int.tdiv_eq_ediv_of_nonneg (by omega), wz (by omega) (by omega)]; omega))] (nonR w) I fun β a w1 I1 hb => ?_
  obtain ⟨w2, hr2, hj2, hb2⟩ := mk_room (n := s.length / 2) I1.hJ (by omega)
  have hw1 := I1.hJ.size
  refine mksQ (t := 49) (x := Sum.inl (Z 0)) (y := Sum.inl (Z (s.length / 2 : Nat))) I1 hr2 ?_
  have I2 := I1.moved (J' := BJ w (.slice (some ⟨w1.heap.size, 0, none⟩) 0 (s.length / 2)) []) (F' := BF w (.slice (some ⟨w1.heap.size, 0, none⟩) 0 (s.length / 2))) (Grow.of_below hb2) hj2 (fun k hk h => by
    rcases h with h | h
    · exact h.1
    · simp only [Value.ownBlock, Option.some.injEq] at h; omega) (.slice (some ⟨w1.heap.size, 0, none⟩) 0 (s.length / 2))
  generalize w1.heap.size = g at *
  refine goQ [] (BJ.rs _ _ _) I2 fun β a w3 I3 hb => ?_
  let St : Nat → Act → World → Prop := fun k a w' => ∃ (i : Nat) (l : List UInt8) (β : Nat → Nat) (u : Nat → Value) (ad : Option Addr) (cap : Nat), k = s.length - i ∧ i ≤ s.length ∧ i % 2 = 0 ∧ 2 * l.length = i ∧ uxL s = (uxL (s.drop i)).map (l ++ ·) ∧ SI (BJ w (.slice ad l.length cap) l) (BF w (.slice ad l.length cap)) [] β (cfC (bodyL Tryd.f41) (fillF (scrF 46 fhK) u 0 (fhW s (.slice ad l.length cap) i)) [] 0) a w'
  refine lpM (bodyL Tryd.f41) St s.length ?_ ?_
  · obtain ⟨u, Iu⟩ := I3.scr (bodyL Tryd.f41) (scrF 46 fhK) (fhW s (.slice (some ⟨g, 0, none⟩) 0 (s.length / 2)) 0) [] 0
    exact ⟨0, [], β, u, some ⟨g, 0, none⟩, s.length / 2, by omega, Nat.zero_le _, rfl, rfl, by simp, Iu⟩
  rintro k a3 w3 ⟨i, l, β3, u, ad, cap, rfl, hi, hie, hil2, hux, I4⟩
  refine wp_cfC (tm := fillF (scrF 46 fhK) u 0 (fhW s (.slice ad l.length cap) i)) (rows := []) (nx := 0) ?_
  rcases Nat.lt_or_ge i s.length with hil | hil
  · obtain ⟨x, hx⟩ : ∃ x, s[i]? = some x := ⟨_, List.getElem?_eq_getElem hil⟩
    obtain ⟨y, hy⟩ : ∃ y, s[i + 1]? = some y := ⟨_, List.getElem?_eq_getElem (by omega)⟩
    have hix := idx49 x
    have hiy := idx49 y
    rw [drop2 hx hy] at hux
    simp only [uxL] at hux
    cases hdx : dgv x with
    | none =>
      rw [hdx] at hux
      have hz : dgZ x = -1 := by unfold dgZ; rw [hdx]
      rw [hz] at hix
      rw [hux]
      generalize dgZ y = zy at *
      refine goQ [lnO s, bO .lss 3 (run_lssZ (x := i) (y := s.length) (b := true) (by simp; omega)), iO 9 (p := str s) (i := Z i) (v := b8 x.toNat) (idx_run hx), kC Tryd.func49 hix, bO .add 3 (run_addZ (x := i) (y := 1) (z := (i + 1 : Nat)) (by rw [wz (by omega) (by omega)]; omega)), iO 9 (p := str s) (i := Z (i + 1 : Nat)) (v := b8 y.toNat) (idx_run hy), kC Tryd.func49 hiy, bO .lss 3 (run_lssZ (x := -1) (y := 0) (b := true) (by decide))] (BJ.rs _ _ _) I4 fun β5 a5 w5 I5 hb5 => ?_
      exact endR (retV (v := str []) I5 ⟨rfl, I5.hJ.below⟩)
    | some dx =>
      have hz : dgZ x = dx := by unfold dgZ; rw [hdx]
      rw [hz] at hix
      have hdl := dgv_lt hdx
      cases hdy : dgv y with
      | none =>
        rw [hdx, hdy] at hux
        have hz : dgZ y = -1 := by unfold dgZ; rw [hdy]
        rw [hz] at hiy
        rw [hux]
        refine goQ [lnO s, bO .lss 3 (run_lssZ (x := i) (y := s.length) (b := true) (by simp; omega)), iO 9 (p := str s) (i := Z i) (v := b8 x.toNat) (idx_run hx), kC Tryd.func49 hix, bO .add 3 (run_addZ (x := i) (y := 1) (z := (i + 1 : Nat)) (by rw [wz (by omega) (by omega)]; omega)), iO 9 (p := str s) (i := Z (i + 1 : Nat)) (v := b8 y.toNat) (idx_run hy), kC Tryd.func49 hiy, bO .lss 3 (run_lssZ (x := dx) (y := 0) (b := false) (by simp)), bO .lss 3 (run_lssZ (x := -1) (y := 0) (b := true) (by decide))] (BJ.rs _ _ _) I4 fun β5 a5 w5 I5 hb5 => ?_
        exact endR (retV (v := str []) I5 ⟨rfl, I5.hJ.below⟩)
      | some dy =>
        have hz : dgZ y = dy := by unfold dgZ; rw [hdy]
        rw [hz] at hiy
        have hdl2 := dgv_lt hdy
        refine goQ [lnO s, bO .lss 3 (run_lssZ (x := i) (y := s.length) (b := true) (by simp; omega)), iO 9 (p := str s) (i := Z i) (v := b8 x.toNat) (idx_run hx), kC Tryd.func49 hix, bO .add 3 (run_addZ (x := i) (y := 1) (z := (i + 1 : Nat)) (by rw [wz (by omega) (by omega)]; omega)), iO 9 (p := str s) (i := Z (i + 1 : Nat)) (v := b8 y.toNat) (idx_run hy), kC Tryd.func49 hiy, bO .lss 3 (run_lssZ (x := dx) (y := 0) (b := false) (by simp)), bO .lss 3 (run_lssZ (x := dy) (y := 0) (b := false) (by simp)), bO .shl 3 (run_shl4 dx hdl), bO .or 3 (run_or16 dx dy hdl hdl2), vO 3 5 (cnvZ8 (16 * dx + dy) (by omega))] (BJ.rs _ _ _) I4 fun β5 a5 w5 I5 hb5 => ?_
        have hbs := bs1 (UInt8.ofNat (16 * dx + dy)) w5
        rw [← u8n (16 * dx + dy) (by omega)] at hbs
        refine app_bytes [UInt8.ofNat (16 * dx + dy)] [(0, Sum.inl (b8 (16 * dx + dy)))] 1 rfl hbs I5 (by simp) (by simp; omega) fun ad8 cap8 a8 w8 I8 => ?_
        refine goQ [bO .add 3 (run_addZ (x := i) (y := 2) (z := (i + 2 : Nat)) (by rw [wz (by omega) (by omega)]; omega))] (BJ.rs _ _ _) I8 fun β9 a9 w9 I9 hb9 => ?_
        obtain ⟨u', Iu⟩ := I9.scr (bodyL Tryd.f41) (scrF 46 fhK) (fhW s (.slice ad8 (l ++ [UInt8.ofNat (16 * dx + dy)]).length cap8) (i + 2)) [] 0
        refine endL ⟨s.length - (i + 2), by omega, i + 2, l ++ [UInt8.ofNat (16 * dx + dy)], β9, u', ad8, cap8, rfl, by omega, by omega, by simp; omega, ?_, Iu⟩
        rw [hux, hdx, hdy]
        cases uxL (s.drop (i + 2)) with
        | none => rfl
        | some t => simp
  · obtain rfl : i = s.length := by omega
    rw [List.drop_length] at hux
    have hux' : uxL s = some l := by rw [hux]; simp [uxL]
    rw [hux']
    refine goQ [lnO s, bO .lss 3 (run_lssZ (x := s.length) (y := s.length) (b := false) (by simp))] (BJ.rs _ _ _) I4 fun β5 a5 w5 I5 hb5 => ?_
    refine endE 0 ?_
    refine goQ [] (BJ.rs _ _ _) (I5.exit _) fun β6 a6 w6 I6 hb6 => ?_
    refine cnvQ I6 (text_own I6.hJ.own) ?_
    have I7 := I6.same (str l)
    refine goQ [] (BJ.rs _ _ _) I7 fun β8 a8 w8 I8 hb8 => ?_
    exact outQ (v := str l) I8 ⟨rfl, I8.hJ.below⟩
/-- A text without its mark. -/
theorem hasPre_any (s p : List UInt8) (hs : s.length < 1000000000) (hp : p.length < 1000000000) (w : World) : Calls Tryd.prog 56 #[str s, str p] w fun e w' => e = .returned (.bool (decide (p.length ≤ s.length ∧ s.take p.length = p))) ∧ RowKit.Below w.heap.size w w' := by
  refine inQ (J := RowKit.Below w.heap.size w) (F := (· < w.heap.size)) Tryd.func56 (RowKit.Below.refl _ _) fun a I => ?_
  by_cases h : p.length ≤ s.length
  · have hcut : ∀ w, (Instr.sliceAt 9 (str s) none (some (Z p.length)) none).run Tryd.prog w = .ok (str (s.take p.length)) w := fun w => to_run h w
    obtain ⟨q, hq⟩ : ∃ q, decide (s.take p.length = p) = q := ⟨_, rfl⟩
    have hq2 : decide (p.length ≤ s.length ∧ s.take p.length = p) = q := by rw [← hq]; simp [h]
    rw [hq2]
    generalize s.take p.length = s1 at *
    refine goQ [lnO s, lnO p, bO .geq 3 (run_geqZ (x := s.length) (y := p.length) (b := true) (by simp; omega)), lnO p, sT 9 hcut, bO .eql 9 (eqS_run (a := s1) (b := p) hq)] (nonR w) I fun β a w1 I hb => ?_
    exact outQ (v := .bool q) I ⟨rfl, I.hJ⟩
  · have hq2 : decide (p.length ≤ s.length ∧ s.take p.length = p) = false := by simp [h]
    rw [hq2]
    refine goQ [lnO s, lnO p, bO .geq 3 (run_geqZ (x := s.length) (y := p.length) (b := false) (by simp; omega))] (nonR w) I fun β a w1 I hb => ?_
    exact outQ (v := .bool false) I ⟨rfl, I.hJ⟩
def cutP (s p : List UInt8) : List UInt8 × Bool := if p.length ≤ s.length ∧ s.take p.length = p then (s.drop p.length, true) else (s, false)
theorem cut50_any (s p : List UInt8) (hs : s.length < 1000000000) (hp : p.length < 1000000000) (w : World) : Calls Tryd.prog 50 #[str s, str p] w fun e w' => e = .returned (.tuple #[str (cutP s p).1, .bool (cutP s p).2]) ∧ RowKit.Below w.heap.size w w' := by
  have hh := hasPre_any s p hs hp
  refine inQ (J := RowKit.Below w.heap.size w) (F := (· < w.heap.size)) Tryd.func50 (RowKit.Below.refl _ _) fun a I => ?_
  unfold cutP
  by_cases h : p.length ≤ s.length ∧ s.take p.length = p
  · rw [decide_eq_true h] at hh
    rw [if_pos h]
    have hcut : ∀ w, (Instr.sliceAt 9 (str s) (some (Z p.length)) none none).run Tryd.prog w = .ok (str (s.drop p.length)) w := fun w => from_run h.1 w
    generalize s.drop p.length = s1 at *
    refine goQ [kC Tryd.func56 hh, uO .not (p := .bool true) (v := .bool false) run_not, lnO p, sO 9 hcut] (nonR w) I fun β a w1 I hb => ?_
    exact outQ (v := .tuple #[str s1, .bool true]) I ⟨rfl, I.hJ⟩
  · rw [decide_eq_false h] at hh
    rw [if_neg h]
    refine goQ [kC Tryd.func56 hh, uO .not (p := .bool false) (v := .bool true) run_not] (nonR w) I fun β a w1 I hb => ?_
    exact outQ (v := .tuple #[str s, .bool false]) I ⟨rfl, I.hJ⟩
theorem cut43_any (s p : List UInt8) (hs : s.length < 1000000000) (hp : p.length < 1000000000) (w : World) : Calls Tryd.prog 43 #[str s, str p] w fun e w' => e = .returned (.tuple #[str (cutP s p).1, .bool (cutP s p).2]) ∧ RowKit.Below w.heap.size w w' := by
  have hh := cut50_any s p hs hp
  generalize cutP s p = r at *
  obtain ⟨s1, q⟩ := r
  refine inQ (J := RowKit.Below w.heap.size w) (F := (· < w.heap.size)) Tryd.func43 (RowKit.Below.refl _ _) fun a I => ?_
  refine goQ [kC Tryd.func50 hh] (nonR w) I fun β a w1 I hb => ?_
  exact outQ (v := .tuple #[str s1, .bool q]) I ⟨rfl, I.hJ⟩
def gapB (b : UInt8) : Bool := decide (b = 32) || decide (b = 10)
theorem isGap_any (b : UInt8) (w : World) : Calls Tryd.prog 40 #[b8 b.toNat] w fun e w' => e = .returned (.bool (gapB b)) ∧ RowKit.Below w.heap.size w w' := by
  refine inQ (J := RowKit.Below w.heap.size w) (F := (· < w.heap.size)) Tryd.func40 (RowKit.Below.refl _ _) fun a I => ?_
  unfold gapB
  by_cases h : b = 32
  · rw [show (decide (b = 32) || decide (b = 10)) = true by simp [h]]
    refine goQ [bO .eql 5 (eqB_run (x := b) (y := 32) (q := true) (by simp [h]))] (nonR w) I fun β a w1 I hb => ?_
    exact outQ (v := .bool true) I ⟨rfl, I.hJ⟩
  · obtain ⟨q, hq⟩ : ∃ q, decide (b = 10) = q := ⟨_, rfl⟩
    rw [show (decide (b = 32) || decide (b = 10)) = q by simp [h, ← hq]]
    refine goQ [bO .eql 5 (eqB_run (x := b) (y := 32) (q := false) (by simp [h])), bO .eql 5 (eqB_run (x := b) (y := 10) hq)] (nonR w) I fun β a w1 I hb => ?_
    exact outQ (v := .bool q) I ⟨rfl, I.hJ⟩
end Go.Proofs.YtoceebhnhccfdaaDoor
