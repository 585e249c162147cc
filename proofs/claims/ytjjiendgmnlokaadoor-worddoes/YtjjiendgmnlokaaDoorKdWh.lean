/- Texts as rows of bytes: what is taken of them, as facts. -/
import Derived.Test.YtjjiendgmnlokaaDoorKdWg
import Derived.Test.YtjjiendgmnlokaaDoorKdRk
namespace Go.Proofs.YtjjiendgmnlokaaDoor
open Go.RowKit Go.Sort
set_option linter.unusedVariables false
set_option maxRecDepth 100000
theorem str_size (l : List UInt8) : (⟨l.toArray⟩ : ByteArray).size = l.length := by
  show l.toArray.size = l.length
  simp
theorem str_extract (l : List UInt8) (i j : Nat) : (⟨l.toArray⟩ : ByteArray).extract i j = ⟨((l.take j).drop i).toArray⟩ := by
  apply ByteArray.ext
  rw [ByteArray.data_extract]
  simp [List.drop_take]
theorem idx_run {l : List UInt8} {k : Nat} {b : UInt8} (h : l[k]? = some b) (w : World) : (Instr.index 9 (str l) (Z k)).run Tryd.prog w = .ok (.int .u8 b.toNat) w := by
  have hk : k < l.length := (List.getElem?_eq_some_iff.1 h).1
  have hb : (⟨l.toArray⟩ : ByteArray)[k]? = some b := by
    have h2 : k < (⟨l.toArray⟩ : ByteArray).size := by rw [str_size]; exact hk
    rw [ByteArray.getElem?_lt' _ _ h2]
    congr 1
    have : l[k] = b := (List.getElem?_eq_some_iff.1 h).2
    rw [← this]
    rfl
  rw [run_index_string (P := Tryd.prog) w 9 ⟨l.toArray⟩ .i64 (k : Int) Tryd.underlying9]
  have h2 : k < (⟨l.toArray⟩ : ByteArray).size := by rw [str_size]; exact hk
  rw [ByteArray.getElem?_lt' _ _ h2] at hb
  have hb2 := Option.some.inj hb
  simp [h2, hb2]
theorem from_run {l : List UInt8} {k : Nat} (hk : k ≤ l.length) (w : World) : (Instr.sliceAt 9 (str l) (some (Z k)) none none).run Tryd.prog w = .ok (str (l.drop k)) w := by
  rw [run_sliceAt_string (P := Tryd.prog) w 9 (str l) _ _ _ Tryd.underlying9]
  rw [run_slice_string_from_if (P := Tryd.prog) w 9 ⟨l.toArray⟩ .i64 (k : Int) Tryd.underlying9]
  have : (0 : Int) ≤ k ∧ (k : Int) ≤ (⟨l.toArray⟩ : ByteArray).size := ⟨by omega, by rw [str_size]; omega⟩
  rw [if_pos this, str_extract, str_size, List.take_length]
  rfl
theorem to_run {l : List UInt8} {k : Nat} (hk : k ≤ l.length) (w : World) : (Instr.sliceAt 9 (str l) none (some (Z k)) none).run Tryd.prog w = .ok (str (l.take k)) w := by
  rw [run_sliceAt_string (P := Tryd.prog) w 9 (str l) _ _ _ Tryd.underlying9]
  rw [run_slice_string_to_if (P := Tryd.prog) w 9 ⟨l.toArray⟩ .i64 (k : Int) Tryd.underlying9]
  have : (0 : Int) ≤ k ∧ (k : Int) ≤ (⟨l.toArray⟩ : ByteArray).size := ⟨by omega, by rw [str_size]; omega⟩
  rw [if_pos this, str_extract]
  rfl
theorem eqS_run {a b : List UInt8} {q : Bool} (h : decide (a = b) = q) (x y : Operand) (w : World) : (do eqGuard .eql 9 x y (str a) (str b); binOp .eql 9 (str a) (str b) : Sem Value).run Tryd.prog w = .ok (.bool q) w := by
  simp [go_sem]
  rw [← h]
  by_cases hab : a = b <;> simp [hab]
/-- A part of a text up to a place, as a fact. -/
def sT {T : World → Prop} (t : Nat) {p l v : Value} (h : ∀ w, (Instr.sliceAt t p none (some l) none).run Tryd.prog w = .ok v w) : Fa Tryd.prog T :=
  Sum.inr (Sum.inr ⟨fun o => match o with | .slice t' _ none (some _) none => t' == t | _ => false, #[p, l], v, true, by
    intro a w oo _ hok hx
    cases hop : oo.op with
    | slice t' x lo hi mx =>
      rw [hop] at hok hx
      cases lo with
      | some y => simp at hok
      | none =>
        cases hi with
        | none => simp at hok
        | some z =>
          cases mx with
          | some z => simp at hok
          | none =>
            simp at hok
            subst hok
            simp [opnds] at hx
            unfold execOp
            simp only [hop, Option.map_some, Option.map_none, hx]
            rw [Sem.run_bind, h, Result.andThen_ok, Sem.run_pure]
    | _ => rw [hop] at hok; simp at hok⟩)
/-- The reader's take: so many bytes. -/
theorem take_any {g : Nat} {S : List UInt8} {at_ n : Nat} {w : World} (hr : HasRow w g #[str S, Z at_]) (hS : S.length < 1000000000000) (ha : at_ ≤ S.length) (hn : at_ + n ≤ S.length) :
    Calls Tryd.prog 34 #[ptr0 g, Z n] w fun e w' => e = .returned (str ((S.drop at_).take n)) ∧ HasRow w' g #[str S, Z (at_ + n : Nat)] ∧ Grow (fun k => k ≠ g) w w' := by
  have hlt := hr.lt
  refine inG (J := RO w g 5 1 (.slice none 0 0) 0 []) (F := ROF w g (.slice none 0 0)) [Z n] Tryd.func34 (RO.start _ _ _ _) hr RO.not fun a I => ?_
  refine goQ [] (RO.rs _ _ _ _ _ _ _) I fun β a w0 I hb => ?_
  have hb0 : β 0 = g := agr hb 0 rfl
  have hsz := str_size S
  refine dwQ 13 [lO Tryd.underlying9 (b := ⟨S.toArray⟩) (n := S.length) (by rw [hsz]), bO .sub 3 (run_subZ (x := S.length) (y := at_) (z := (S.length - at_ : Nat)) (by rw [wz (by omega) (by omega)]; omega)), bO .leq 3 (run_leqZ (x := n) (y := (S.length - at_ : Nat)) (b := true) (by simp; omega)), kC Tryd.func24 ask_t] (RO.rs _ _ _ _ _ _ _) PanOk.post I fun a w1 I => ?_
  refine goQ [] (RO.rs _ _ _ _ _ _ _) I fun β2 a w2 I hb2 => ?_
  have hb20 : β2 0 = g := agr hb2 0 hb0
  refine dwQ 12 [sO 9 (p := str S) (l := Z at_) (v := str (S.drop at_)) (from_run ha), sT 9 (p := str (S.drop at_)) (l := Z n) (v := str ((S.drop at_).take n)) (to_run (by rw [List.length_drop]; omega))] (RO.rs _ _ _ _ _ _ _) PanOk.post I fun a w3 I => ?_
  refine goQ [bO .add 3 (run_addZ (x := at_) (y := n) (z := (at_ + n : Nat)) (by rw [wz (by omega) (by omega)]; omega))] (RO.rs _ _ _ _ _ _ _) I fun β4 a w4 I hb4 => ?_
  have hb40 : β4 0 = g := agr hb4 0 hb20
  exact outQ I ⟨rfl, I.rowG 0 hb40 (r := #[str S, Z (at_ + n : Nat)]), I.hJ.gr⟩
theorem take_bad {g : Nat} {S : List UInt8} {at_ n : Nat} {w : World} (hr : HasRow w g #[str S, Z at_]) (hS : S.length < 1000000000000) (ha : at_ ≤ S.length) (hn : S.length < at_ + n) (hn2 : n < 1000000000000) :
    Calls Tryd.prog 34 #[ptr0 g, Z n] w fun e w' => e = .panicked PErr ∧ Grow (fun k => k ≠ g) w w' := by
  have hlt := hr.lt
  refine inG (J := RO w g 5 1 (.slice none 0 0) 0 []) (F := ROF w g (.slice none 0 0)) [Z n] Tryd.func34 (RO.start _ _ _ _) hr RO.not fun a I => ?_
  refine goQ [] (RO.rs _ _ _ _ _ _ _) I fun β a w0 I hb => ?_
  have hsz := str_size S
  refine dwQ 12 [lO Tryd.underlying9 (b := ⟨S.toArray⟩) (n := S.length) (by rw [hsz]), bO .sub 3 (run_subZ (x := S.length) (y := at_) (z := (S.length - at_ : Nat)) (by rw [wz (by omega) (by omega)]; omega)), bO .leq 3 (run_leqZ (x := n) (y := (S.length - at_ : Nat)) (b := false) (by simp; omega))] (RO.rs _ _ _ _ _ _ _) PanOk.post I fun a w1 I => ?_
  exact rthrow [Sum.inl (.bool false)] Tryd.func24 I (fun w' => Below w1.heap.size w1 w') (ask_f w1) fun w' hb => ⟨I.df, rfl, I.hJ.gr.trans (Grow.of_below hb)⟩
/-- A word's number. -/
def nm (l : List UInt8) : Nat := rdN ⟨l.toArray⟩ l.length
theorem number_any (l : List UInt8) (hl : l.length ≤ 32) (w : World) : Calls Tryd.prog 47 #[str l] w fun e w' => e = .returned (U (nm l)) ∧ Below w.heap.size w w' := by
  have hr := read_any ⟨l.toArray⟩ (by rw [str_size]; exact hl)
  rw [str_size] at hr
  refine inQ (J := Below w.heap.size w) (F := (· < w.heap.size)) Tryd.func47 (Below.refl _ _) fun a I => ?_
  refine goQ [kC Tryd.func56 hr] (nonR w) I fun β a w1 I hb => ?_
  exact outQ I ⟨rfl, I.hJ⟩
theorem eqB_run {x y : UInt8} {q : Bool} (h : decide (x = y) = q) (o1 o2 : Operand) (w : World) : (do eqGuard .eql 5 o1 o2 (.int .u8 x.toNat) (.int .u8 y.toNat); binOp .eql 5 (.int .u8 x.toNat) (.int .u8 y.toNat) : Sem Value).run Tryd.prog w = .ok (.bool q) w := by
  rw [← h]
  by_cases hx : x = y
  · simp [go_sem, hx]
  · have : ¬ (x.toNat = y.toNat) := fun e => hx (UInt8.toNat_inj.1 e)
    have h2 : ¬ ((x.toNat : Int) = (y.toNat : Int)) := by omega
    simp [go_sem, hx, h2]
/-- Bytes c at the beginning are struck. -/
theorem trimL_any (c : UInt8) : ∀ (l : List UInt8) (w : World), l.length < 1000000000000 → Calls Tryd.prog 61 #[str l, .int .u8 c.toNat] w fun e w' => e = .returned (str (l.dropWhile (· == c))) ∧ Below w.heap.size w w' := by
  intro l w hl
  refine inQ (J := Below w.heap.size w) (F := (· < w.heap.size)) Tryd.func61 (Below.refl _ _) fun a I => ?_
  refine goQ [] (nonR w) I fun β a w1 I hb => ?_
  let St : Nat → Act → World → Prop := fun k a w' => ∃ (m : List UInt8) (β : Nat → Nat) (u : Nat → Value), k = m.length ∧ m.length ≤ l.length ∧ m.dropWhile (· == c) = l.dropWhile (· == c) ∧ SI (Below w.heap.size w) (· < w.heap.size) [] β (cfC (bodyL Tryd.f61) (fillF (scrF 17 [0, 1]) u 0 (frm 17 [(0, Sum.inl (str m)), (1, Sum.inl (.int .u8 c.toNat))])) [] 0) a w'
  refine lpM (bodyL Tryd.f61) St l.length ?_ ?_
  · obtain ⟨u, Iu⟩ := I.scr (bodyL Tryd.f61) (scrF 17 [0, 1]) (frm 17 [(0, Sum.inl (str l)), (1, Sum.inl (.int .u8 c.toNat))]) [] 0
    exact ⟨l, β, u, rfl, Nat.le_refl _, rfl, Iu⟩
  rintro k a3 w3 ⟨m, β3, u, rfl, hm, hd, I⟩
  refine wp_cfC (tm := fillF (scrF 17 [0, 1]) u 0 (frm 17 [(0, Sum.inl (str m)), (1, Sum.inl (.int .u8 c.toNat))])) (rows := []) (nx := 0) ?_
  have hsz := str_size m
  cases m with
  | nil =>
    refine goQ [lO Tryd.underlying9 (b := ⟨[].toArray⟩) (n := (0 : Nat)) (by rw [hsz]; rfl), bO .gtr 3 (run_gtrZ (x := (0 : Nat)) (y := 0) (b := false) (by decide))] (nonR w) I fun β4 a4 w4 I hb4 => ?_
    refine endE 0 ?_
    refine goQ [] (nonR w) (I.exit _) fun β5 a5 w5 I hb5 => ?_
    exact outQ (v := str []) I ⟨by rw [← hd]; rfl, I.hJ⟩
  | cons b m =>
    by_cases hbc : b = c
    · refine goQ [lO Tryd.underlying9 (b := ⟨(b :: m).toArray⟩) (n := ((b :: m).length : Nat)) (by rw [hsz]), bO .gtr 3 (run_gtrZ (x := ((b :: m).length : Nat)) (y := 0) (b := true) (by simp only [List.length_cons, decide_eq_true_eq]; omega)), iO 9 (p := str (b :: m)) (i := Z (0 : Nat)) (v := .int .u8 b.toNat) (idx_run rfl), bO .eql 5 (eqB_run (x := b) (y := c) (q := true) (by simp [hbc])), sO 9 (p := str (b :: m)) (l := Z (1 : Nat)) (v := str m) (fun w => from_run (l := b :: m) (k := 1) (by simp) w)] (nonR w) I fun β4 a4 w4 I hb4 => ?_
      obtain ⟨u', Iu⟩ := I.scr (bodyL Tryd.f61) (scrF 17 [0, 1]) (frm 17 [(0, Sum.inl (str m)), (1, Sum.inl (.int .u8 c.toNat))]) [] 0
      exact endL ⟨m.length, by simp, m, β4, u', rfl, by simp only [List.length_cons] at hm; omega, by rw [← hd]; simp [hbc], Iu⟩
    · refine goQ [lO Tryd.underlying9 (b := ⟨(b :: m).toArray⟩) (n := ((b :: m).length : Nat)) (by rw [hsz]), bO .gtr 3 (run_gtrZ (x := ((b :: m).length : Nat)) (y := 0) (b := true) (by simp only [List.length_cons, decide_eq_true_eq]; omega)), iO 9 (p := str (b :: m)) (i := Z (0 : Nat)) (v := .int .u8 b.toNat) (idx_run rfl), bO .eql 5 (eqB_run (x := b) (y := c) (q := false) (by simp [hbc]))] (nonR w) I fun β4 a4 w4 I hb4 => ?_
      refine endE 0 ?_
      refine goQ [] (nonR w) (I.exit _) fun β5 a5 w5 I hb5 => ?_
      exact outQ (v := str (b :: m)) I ⟨by rw [← hd]; simp [hbc], I.hJ⟩
def trR (c : UInt8) (l : List UInt8) : List UInt8 := (l.reverse.dropWhile (· == c)).reverse
theorem trimR_any (c : UInt8) : ∀ (l : List UInt8) (w : World), l.length < 1000000000000 → Calls Tryd.prog 62 #[str l, .int .u8 c.toNat] w fun e w' => e = .returned (str (trR c l)) ∧ Below w.heap.size w w' := by
  intro l w hl
  refine inQ (J := Below w.heap.size w) (F := (· < w.heap.size)) Tryd.func62 (Below.refl _ _) fun a I => ?_
  refine goQ [] (nonR w) I fun β a w1 I hb => ?_
  let St : Nat → Act → World → Prop := fun k a w' => ∃ (m : List UInt8) (β : Nat → Nat) (u : Nat → Value), k = m.length ∧ m.length ≤ l.length ∧ trR c m = trR c l ∧ SI (Below w.heap.size w) (· < w.heap.size) [] β (cfC (bodyL Tryd.f62) (fillF (scrF 23 [0, 1]) u 0 (frm 23 [(0, Sum.inl (str m)), (1, Sum.inl (.int .u8 c.toNat))])) [] 0) a w'
  refine lpM (bodyL Tryd.f62) St l.length ?_ ?_
  · obtain ⟨u, Iu⟩ := I.scr (bodyL Tryd.f62) (scrF 23 [0, 1]) (frm 23 [(0, Sum.inl (str l)), (1, Sum.inl (.int .u8 c.toNat))]) [] 0
    exact ⟨l, β, u, rfl, Nat.le_refl _, rfl, Iu⟩
  rintro k a3 w3 ⟨m, β3, u, rfl, hm, hd, I⟩
  refine wp_cfC (tm := fillF (scrF 23 [0, 1]) u 0 (frm 23 [(0, Sum.inl (str m)), (1, Sum.inl (.int .u8 c.toNat))])) (rows := []) (nx := 0) ?_
  have hsz := str_size m
  rcases (by simpa only [List.concat_eq_append] using List.eq_nil_or_concat m : m = [] ∨ ∃ m' b, m = m' ++ [b]) with rfl | ⟨m', b, rfl⟩
  · refine goQ [lO Tryd.underlying9 (b := ⟨[].toArray⟩) (n := (0 : Nat)) (by rw [hsz]; rfl), bO .gtr 3 (run_gtrZ (x := (0 : Nat)) (y := 0) (b := false) (by decide))] (nonR w) I fun β4 a4 w4 I hb4 => ?_
    refine endE 0 ?_
    refine goQ [] (nonR w) (I.exit _) fun β5 a5 w5 I hb5 => ?_
    exact outQ (v := str []) I ⟨by rw [← hd]; rfl, I.hJ⟩
  · have hlen : (m' ++ [b]).length = m'.length + 1 := by simp
    have hidx : (m' ++ [b])[m'.length]? = some b := by simp
    have htk : (m' ++ [b]).take m'.length = m' := by simp
    rw [hlen] at hm hsz
    by_cases hbc : b = c
    · refine goQ [lO Tryd.underlying9 (b := ⟨(m' ++ [b]).toArray⟩) (n := (m'.length + 1 : Nat)) (by rw [hsz]), bO .gtr 3 (run_gtrZ (x := (m'.length + 1 : Nat)) (y := 0) (b := true) (by simp only [decide_eq_true_eq]; omega)), lO Tryd.underlying9 (b := ⟨(m' ++ [b]).toArray⟩) (n := (m'.length + 1 : Nat)) (by rw [hsz]), bO .sub 3 (run_subZ (x := (m'.length + 1 : Nat)) (y := 1) (z := m'.length) (by rw [wz (by omega) (by omega)]; omega)), iO 9 (p := str (m' ++ [b])) (i := Z m'.length) (v := .int .u8 b.toNat) (idx_run hidx), bO .eql 5 (eqB_run (x := b) (y := c) (q := true) (by simp [hbc])),
        lO Tryd.underlying9 (b := ⟨(m' ++ [b]).toArray⟩) (n := (m'.length + 1 : Nat)) (by rw [hsz]), bO .sub 3 (run_subZ (x := (m'.length + 1 : Nat)) (y := 1) (z := m'.length) (by rw [wz (by omega) (by omega)]; omega)), sT 9 (p := str (m' ++ [b])) (l := Z m'.length) (v := str m') (fun w => by have := to_run (l := m' ++ [b]) (k := m'.length) (by simp) w; rw [htk] at this; exact this)] (nonR w) I fun β4 a4 w4 I hb4 => ?_
      obtain ⟨u', Iu⟩ := I.scr (bodyL Tryd.f62) (scrF 23 [0, 1]) (frm 23 [(0, Sum.inl (str m')), (1, Sum.inl (.int .u8 c.toNat))]) [] 0
      exact endL ⟨m'.length, by rw [hlen]; omega, m', β4, u', rfl, by omega, by rw [← hd]; simp [trR, hbc], Iu⟩
    · refine goQ [lO Tryd.underlying9 (b := ⟨(m' ++ [b]).toArray⟩) (n := (m'.length + 1 : Nat)) (by rw [hsz]), bO .gtr 3 (run_gtrZ (x := (m'.length + 1 : Nat)) (y := 0) (b := true) (by simp only [decide_eq_true_eq]; omega)), lO Tryd.underlying9 (b := ⟨(m' ++ [b]).toArray⟩) (n := (m'.length + 1 : Nat)) (by rw [hsz]), bO .sub 3 (run_subZ (x := (m'.length + 1 : Nat)) (y := 1) (z := m'.length) (by rw [wz (by omega) (by omega)]; omega)), iO 9 (p := str (m' ++ [b])) (i := Z m'.length) (v := .int .u8 b.toNat) (idx_run hidx), bO .eql 5 (eqB_run (x := b) (y := c) (q := false) (by simp [hbc]))] (nonR w) I fun β4 a4 w4 I hb4 => ?_
      refine endE 0 ?_
      refine goQ [] (nonR w) (I.exit _) fun β5 a5 w5 I hb5 => ?_
      exact outQ (v := str (m' ++ [b])) I ⟨by rw [← hd]; simp [trR, hbc], I.hJ⟩
def trm (l : List UInt8) : List UInt8 := (trR 0 l).dropWhile (· == 0)
theorem lssB_run {x y : Nat} {q : Bool} (h : decide (x < y) = q) (o1 o2 : Operand) (w : World) : (do eqGuard .lss 5 o1 o2 (.int .u8 (x : Int)) (.int .u8 (y : Int)); binOp .lss 5 (.int .u8 (x : Int)) (.int .u8 (y : Int)) : Sem Value).run Tryd.prog w = .ok (.bool q) w := by
  rw [← h]
  by_cases hx : x < y <;> simp [go_sem, hx]
theorem trR_len (c : UInt8) (l : List UInt8) : (trR c l).length ≤ l.length := by
  unfold trR
  rw [List.length_reverse]
  have := (List.dropWhile_sublist (p := fun x => x == c) (l := l.reverse)).length_le
  simpa using this
/-- strings.Trim with the byte 0. -/
theorem trim_any (l : List UInt8) (hl : l.length < 1000000000000) (w : World) : Calls Tryd.prog 57 #[str l, str [0]] w fun e w' => e = .returned (str (trm l)) ∧ Below w.heap.size w w' := by
  refine inQ (J := Below w.heap.size w) (F := (· < w.heap.size)) Tryd.func57 (Below.refl _ _) fun a I => ?_
  by_cases hn : l = []
  · subst hn
    refine goQ [bO .eql 9 (eqS_run (a := []) (b := []) (q := true) rfl)] (nonR w) I fun β a w1 I hb => ?_
    exact outQ (v := str []) I ⟨rfl, I.hJ⟩
  · refine goQ [bO .eql 9 (eqS_run (a := l) (b := []) (q := false) (by simp [hn])), bO .eql 9 (eqS_run (a := [0]) (b := []) (q := false) rfl), lO Tryd.underlying9 (b := ⟨[0].toArray⟩) (n := 1) rfl, bO .eql 3 (run_eqlZ (x := 1) (y := 1) (b := true) rfl), iO 9 (p := str [0]) (i := Z (0 : Nat)) (v := .int .u8 (0 : UInt8).toNat) (idx_run rfl), bO .lss 5 (lssB_run (x := 0) (y := 128) (q := true) rfl)] (nonR w) I fun β a w1 I hb => ?_
    refine dwQ 8 [iO 9 (p := str [0]) (i := Z (0 : Nat)) (v := .int .u8 (0 : UInt8).toNat) (idx_run rfl), kC Tryd.func62 (trimR_any 0 l · hl), iO 9 (p := str [0]) (i := Z (0 : Nat)) (v := .int .u8 (0 : UInt8).toNat) (idx_run rfl), kC Tryd.func61 (trimL_any 0 (trR 0 l) · (by have := trR_len 0 l; omega))] (nonR w) PanOk.post I fun a w3 I => ?_
    refine goQ [] (nonR w) I fun β5 a5 w5 I hb5 => ?_
    exact outQ (v := str (trm l)) I ⟨rfl, I.hJ⟩
theorem dw_nil {p : UInt8 → Bool} : ∀ {l : List UInt8}, l.dropWhile p = [] ↔ ∀ x ∈ l, p x = true
  | [] => by simp
  | b :: l => by
    rw [List.dropWhile_cons]
    split
    · next h => rw [dw_nil (l := l)]; simp [h]
    · next h => simp [h]
theorem trm_nil (l : List UInt8) : trm l = [] ↔ ∀ b ∈ l, b = 0 := by
  unfold trm trR
  constructor
  · intro h b hb
    rw [dw_nil] at h
    have h2 : (l.reverse.dropWhile (· == 0)) = [] := by
      cases hq : l.reverse.dropWhile (· == 0) with
      | nil => rfl
      | cons x t =>
        have hx : ¬ ((x == 0) = true) := by
          have := List.head?_dropWhile_not (p := fun b : UInt8 => b == 0) (l := l.reverse)
          rw [hq] at this
          simpa using this
        have := h x (by rw [hq]; simp)
        exact absurd this hx
    rw [dw_nil] at h2
    simpa using h2 b (by simpa using hb)
  · intro h
    have h2 : (l.reverse.dropWhile (· == 0)) = [] := by
      rw [dw_nil]
      intro x hx
      simpa using h x (by simpa using hx)
    rw [h2]
    rfl
end Go.Proofs.YtjjiendgmnlokaaDoor
