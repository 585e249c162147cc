/- Devices: what they are in memory; what is asked of them, for both sides. -/
import Derived.Test.YthmhlbikejodaaaNa
namespace Go.Proofs.Ythmhlbikejodaaa
open Go.RowKit Go.Sort
set_option linter.unusedVariables false
set_option maxRecDepth 100000
abbrev By : Type := List UInt8
abbrev dk (d t : By) (f : Int) (o : Bool) : Value := .agg #[str d, str t, Z f, .bool o]
theorem bd_dk (d : By) (w : World) : (Instr.build 23 (([0, 2] : List Nat).zip [str d, Z (-1)]).toArray).run Try.prog w = .ok (dk d [] (-1) false) w := by kernel_rfl
theorem bd_new (w : World) : (Instr.build 23 (([2] : List Nat).zip [Z (-1)]).toArray).run Try.prog w = .ok (dk [] [] (-1) false) w := by kernel_rfl
theorem run_eqE {x y : Int} {b : Bool} (h : decide (x = y) = b) (o1 o2 : Operand) (w : World) : (do eqGuard .eql 27 o1 o2 (Z x) (Z y); binOp .eql 27 (Z x) (Z y) : Sem Value).run Try.prog w = .ok (.bool b) w := by subst h; by_cases hx : x = y <;> simp [go_sem, hx]
theorem neqS_run {a b : By} {q : Bool} (h : decide (a ≠ b) = q) (x y : Operand) (w : World) : (do eqGuard .neq 9 x y (str a) (str b); binOp .neq 9 (str a) (str b) : Sem Value).run Try.prog w = .ok (.bool q) w := by
  simp [go_sem]
  rw [← h]
  by_cases hab : a = b <;> simp [hab]
theorem neqB_run {a b : Bool} {q : Bool} (h : decide (a ≠ b) = q) (x y : Operand) (w : World) : (do eqGuard .neq 4 x y (.bool a) (.bool b); binOp .neq 4 (.bool a) (.bool b) : Sem Value).run Try.prog w = .ok (.bool q) w := by
  subst h
  cases a <;> cases b <;> simp [go_sem]
theorem eqS1 (n : Nat) (s : By) (w : World) : (Op.equalIn (n + 1) 9 (str s) (str s)).run Try.prog w = .ok true w := by
  have h : ((⟨s.toArray⟩ : ByteArray) == ⟨s.toArray⟩) = true := by
    show (s.toArray == s.toArray) = true
    simp
  simp [Op.equalIn, run_underlying Try.underlying9, h]
theorem eqB1 (n : Nat) (o : Bool) (w : World) : (Op.equalIn (n + 1) 4 (.bool o) (.bool o)).run Try.prog w = .ok true w := by simp [Op.equalIn, run_underlying Try.underlying4]
theorem eqI1 (n : Nat) (f : Int) (w : World) : (Op.equalIn (n + 1) 3 (Z f) (Z f)).run Try.prog w = .ok true w := by
  rw [run_equalIn_int w n 3 .i64 .i64 f f Try.underlying3]
  simp
theorem run_eqD (d t : By) (f : Int) (o : Bool) (w : World) : (Op.equalIn 10000 23 (dk d t f o) (dk d t f o)).run Try.prog w = .ok true w := by
  have e1 : ∀ (s : By) w, (Op.equalIn 9999 9 (str s) (str s)).run Try.prog w = .ok true w := fun s w => eqS1 9998 s w
  have e2 : ∀ w, (Op.equalIn 9999 3 (Z f) (Z f)).run Try.prog w = .ok true w := fun w => eqI1 9998 f w
  have e3 : ∀ w, (Op.equalIn 9999 4 (.bool o) (.bool o)).run Try.prog w = .ok true w := fun w => eqB1 9998 o w
  have p1 : ∀ w, (part 9 #[str d, str t, Z f, .bool o] 0).run Try.prog w = .ok (str d) w := fun w => by simp [part, isAgg, run_underlying Try.underlying9]
  have p2 : ∀ w, (part 9 #[str d, str t, Z f, .bool o] 1).run Try.prog w = .ok (str t) w := fun w => by simp [part, isAgg, run_underlying Try.underlying9]
  have p3 : ∀ w, (part 3 #[str d, str t, Z f, .bool o] 2).run Try.prog w = .ok (Z f) w := fun w => by simp [part, isAgg, run_underlying Try.underlying3]
  have p4 : ∀ w, (part 4 #[str d, str t, Z f, .bool o] 3).run Try.prog w = .ok (.bool o) w := fun w => by simp [part, isAgg, run_underlying Try.underlying4]
  rw [show (10000 : Nat) = 9999 + 1 from rfl, Op.equalIn]
  simp [run_underlying Try.underlying23, e1, e2, e3, p1, p2, p3, p4]
theorem eqD_run (d t : By) (f : Int) (o : Bool) (x y : Operand) (w : World) : (do eqGuard .eql 23 x y (dk d t f o) (dk d t f o); binOp .eql 23 (dk d t f o) (dk d t f o) : Sem Value).run Try.prog w = .ok (.bool true) w := by
  have he := run_eqD d t f o w
  have hg : (eqGuard .eql 23 x y (dk d t f o) (dk d t f o)).run Try.prog w = .ok () w := by
    unfold eqGuard
    simp [go_sem]
  simp only [Sem.run_bind, hg, Result.andThen_ok]
  unfold binOp Op.equal
  simp only [Sem.run_bind]
  rw [show Op.maxDepth = 10000 from rfl, he]
  simp [go_sem]
theorem neqD_run (d t : By) (f : Int) (o : Bool) (x y : Operand) (w : World) : (do eqGuard .neq 23 x y (dk d t f o) (dk d t f o); binOp .neq 23 (dk d t f o) (dk d t f o) : Sem Value).run Try.prog w = .ok (.bool false) w := by
  have he := run_eqD d t f o w
  have hg : (eqGuard .neq 23 x y (dk d t f o) (dk d t f o)).run Try.prog w = .ok () w := by
    unfold eqGuard
    simp [go_sem]
  simp only [Sem.run_bind, hg, Result.andThen_ok]
  unfold binOp Op.equal
  simp only [Sem.run_bind]
  rw [show Op.maxDepth = 10000 from rfl, he]
  simp [go_sem]
/-- What functions of both sides leave: nothing that was there is turned. -/
abbrev Rt0 (v : Value) (w : World) : Ending → World → Prop := fun e w' => e = .returned v ∧ Below w.heap.size w w'
theorem take_min (s : By) (n : Int) : s.take n.toNat = s.take (min n.toNat s.length) := by
  by_cases h : n.toNat ≤ s.length
  · rw [Nat.min_eq_left h]
  · rw [Nat.min_eq_right (by omega), List.take_of_length_le (by omega), List.take_length]
theorem first_any (s : By) (n : Int) (w : World) : Calls Try.prog 24 #[str s, Z n] w (Rt0 (str (s.take n.toNat)) w) := by
  rw [take_min]
  obtain ⟨k, hk⟩ : ∃ k, min n.toNat s.length = k := ⟨_, rfl⟩
  rw [hk]
  obtain ⟨m, hm⟩ : ∃ m : Int, (if (s.length : Int) < n then (s.length : Int) else n) = m := ⟨_, rfl⟩
  refine inQ (J := Below w.heap.size w) (F := (· < w.heap.size)) Try.func24 (Below.refl _ _) fun a I => ?_
  refine goQ [lnO s, mnO (x := n) (y := s.length) (z := m) hm, mxO (k := .i64) (x := 0) (y := m) (z := k) (by subst hm; split <;> split <;> omega), sT 9 (to_run (l := s) (k := k) (by omega))] (nonR w) I fun β a w1 I hb => ?_
  exact outQ (v := str (s.take k)) I ⟨rfl, I.hJ⟩
theorem size_any (d t : By) (f : Int) (o : Bool) (hz : d.length + t.length ≤ 1000000000000) (w : World) : Calls Try.prog 22 #[dk d t f o] w (Rt0 (Z ((d.length + t.length : Nat) : Int)) w) := by
  obtain ⟨z, hk⟩ : ∃ z : Int, ((d.length + t.length : Nat) : Int) = z := ⟨_, rfl⟩
  rw [hk]
  refine inQ (J := Below w.heap.size w) (F := (· < w.heap.size)) Try.func22 (Below.refl _ _) fun a I => ?_
  refine goQ [lnO d, lnO t, bO .add 3 (run_addZ (x := d.length) (y := t.length) (z := z) (by rw [wz (by omega) (by omega)]; omega))] (nonR w) I fun β a w1 I hb => ?_
  exact outQ (v := Z z) I ⟨rfl, I.hJ⟩
theorem new_any (w : World) : Calls Try.prog 9 #[] w (Rt0 (dk [] [] (-1) false) w) := by
  refine inQ (J := Below w.heap.size w) (F := (· < w.heap.size)) Try.func9 (Below.refl _ _) fun a I => ?_
  refine goQ [dO 23 [2] bd_new] (nonR w) I fun β a w1 I hb => ?_
  exact outQ (v := dk [] [] (-1) false) I ⟨rfl, I.hJ⟩
theorem rnew_any (w : World) : Calls Try.prog 10 #[] w (Rt0 (dk [] [] (-1) false) w) := by
  refine inQ (J := Below w.heap.size w) (F := (· < w.heap.size)) Try.func10 (Below.refl _ _) fun a I => ?_
  refine goQ [dO 23 [2] bd_new] (nonR w) I fun β a w1 I hb => ?_
  exact outQ (v := dk [] [] (-1) false) I ⟨rfl, I.hJ⟩
def fitP (d t : By) (f : Int) : Bool := decide (d.length + t.length ≤ 131072 ∧ -1 ≤ f ∧ f ≤ 131072)
theorem fit_any (d t : By) (f : Int) (o : Bool) (hz : d.length + t.length ≤ 1000000000000) (w : World) : Calls Try.prog 7 #[dk d t f o] w (Rt0 (.bool (fitP d t f)) w) := by
  have hs := size_any d t f o hz
  obtain ⟨z, hk⟩ : ∃ z : Int, ((d.length + t.length : Nat) : Int) = z := ⟨_, rfl⟩
  rw [hk] at hs
  refine inQ (J := Below w.heap.size w) (F := (· < w.heap.size)) Try.func7 (Below.refl _ _) fun a I => ?_
  by_cases h1 : z ≤ 131072
  · by_cases h2 : -1 ≤ f
    · by_cases h3 : f ≤ 131072
      · rw [show fitP d t f = true from decide_eq_true ⟨by omega, h2, h3⟩]
        refine goQ [kC Try.func22 hs, bO .leq 3 (run_leqZ (x := z) (y := 131072) (b := true) (decide_eq_true h1)), bO .geq 3 (run_geqZ (x := f) (y := -1) (b := true) (decide_eq_true h2)), bO .leq 3 (run_leqZ (x := f) (y := 131072) (b := true) (decide_eq_true h3))] (nonR w) I fun β a w1 I hb => ?_
        exact outQ (v := .bool true) I ⟨rfl, I.hJ⟩
      · rw [show fitP d t f = false from decide_eq_false fun h => h3 h.2.2]
        refine goQ [kC Try.func22 hs, bO .leq 3 (run_leqZ (x := z) (y := 131072) (b := true) (decide_eq_true h1)), bO .geq 3 (run_geqZ (x := f) (y := -1) (b := true) (decide_eq_true h2)), bO .leq 3 (run_leqZ (x := f) (y := 131072) (b := false) (decide_eq_false h3))] (nonR w) I fun β a w1 I hb => ?_
        exact outQ (v := .bool false) I ⟨rfl, I.hJ⟩
    · rw [show fitP d t f = false from decide_eq_false fun h => h2 h.2.1]
      refine goQ [kC Try.func22 hs, bO .leq 3 (run_leqZ (x := z) (y := 131072) (b := true) (decide_eq_true h1)), bO .geq 3 (run_geqZ (x := f) (y := -1) (b := false) (decide_eq_false h2))] (nonR w) I fun β a w1 I hb => ?_
      exact outQ (v := .bool false) I ⟨rfl, I.hJ⟩
  · rw [show fitP d t f = false from decide_eq_false fun h => h1 (by omega)]
    refine goQ [kC Try.func22 hs, bO .leq 3 (run_leqZ (x := z) (y := 131072) (b := false) (decide_eq_false h1))] (nonR w) I fun β a w1 I hb => ?_
    exact outQ (v := .bool false) I ⟨rfl, I.hJ⟩
theorem rfit_any (d t : By) (f : Int) (o : Bool) (hz : d.length ≤ 1000000000000) (w : World) : Calls Try.prog 8 #[dk d t f o] w (Rt0 (.bool (fitP d t f)) w) := by
  refine inQ (J := Below w.heap.size w) (F := (· < w.heap.size)) Try.func8 (Below.refl _ _) fun a I => ?_
  obtain ⟨z, hk⟩ : ∃ z : Int, 131072 - (d.length : Int) = z := ⟨_, rfl⟩
  have hw : IntKind.i64.wrap (131072 - (d.length : Int)) = z := by rw [wz (by omega) (by omega)]; exact hk
  by_cases h0 : (d.length : Int) ≤ 131072
  · by_cases h1 : (t.length : Int) ≤ z
    · by_cases h2 : -1 ≤ f
      · by_cases h3 : f ≤ 131072
        · rw [show fitP d t f = true from decide_eq_true ⟨by omega, h2, h3⟩]
          refine goQ [lnO d, bO .leq 3 (run_leqZ (x := d.length) (y := 131072) (b := true) (decide_eq_true h0)), lnO t, lnO d, bO .sub 3 (run_subZ (x := 131072) (y := d.length) (z := z) hw), bO .leq 3 (run_leqZ (x := t.length) (y := z) (b := true) (decide_eq_true h1)), bO .geq 3 (run_geqZ (x := f) (y := -1) (b := true) (decide_eq_true h2)), bO .leq 3 (run_leqZ (x := f) (y := 131072) (b := true) (decide_eq_true h3))] (nonR w) I fun β a w1 I hb => ?_
          exact outQ (v := .bool true) I ⟨rfl, I.hJ⟩
        · rw [show fitP d t f = false from decide_eq_false fun h => h3 h.2.2]
          refine goQ [lnO d, bO .leq 3 (run_leqZ (x := d.length) (y := 131072) (b := true) (decide_eq_true h0)), lnO t, lnO d, bO .sub 3 (run_subZ (x := 131072) (y := d.length) (z := z) hw), bO .leq 3 (run_leqZ (x := t.length) (y := z) (b := true) (decide_eq_true h1)), bO .geq 3 (run_geqZ (x := f) (y := -1) (b := true) (decide_eq_true h2)), bO .leq 3 (run_leqZ (x := f) (y := 131072) (b := false) (decide_eq_false h3))] (nonR w) I fun β a w1 I hb => ?_
          exact outQ (v := .bool false) I ⟨rfl, I.hJ⟩
      · rw [show fitP d t f = false from decide_eq_false fun h => h2 h.2.1]
        refine goQ [lnO d, bO .leq 3 (run_leqZ (x := d.length) (y := 131072) (b := true) (decide_eq_true h0)), lnO t, lnO d, bO .sub 3 (run_subZ (x := 131072) (y := d.length) (z := z) hw), bO .leq 3 (run_leqZ (x := t.length) (y := z) (b := true) (decide_eq_true h1)), bO .geq 3 (run_geqZ (x := f) (y := -1) (b := false) (decide_eq_false h2))] (nonR w) I fun β a w1 I hb => ?_
        exact outQ (v := .bool false) I ⟨rfl, I.hJ⟩
    · rw [show fitP d t f = false from decide_eq_false fun h => h1 (by omega)]
      refine goQ [lnO d, bO .leq 3 (run_leqZ (x := d.length) (y := 131072) (b := true) (decide_eq_true h0)), lnO t, lnO d, bO .sub 3 (run_subZ (x := 131072) (y := d.length) (z := z) hw), bO .leq 3 (run_leqZ (x := t.length) (y := z) (b := false) (decide_eq_false h1))] (nonR w) I fun β a w1 I hb => ?_
      exact outQ (v := .bool false) I ⟨rfl, I.hJ⟩
  · rw [show fitP d t f = false from decide_eq_false fun h => h0 (by omega)]
    refine goQ [lnO d, bO .leq 3 (run_leqZ (x := d.length) (y := 131072) (b := false) (decide_eq_false h0))] (nonR w) I fun β a w1 I hb => ?_
    exact outQ (v := .bool false) I ⟨rfl, I.hJ⟩
def arF (f : Int) (o : Bool) (n : Int) : Int := if o = true then f else if n < -1 then -1 else if 131072 < n then 131072 else n
theorem arm_any (d t : By) (f : Int) (o : Bool) (n : Int) (w : World) : Calls Try.prog 15 #[dk d t f o, Z n] w (Rt0 (dk d t (arF f o n) o) w) := by
  refine inQ (J := Below w.heap.size w) (F := (· < w.heap.size)) Try.func15 (Below.refl _ _) fun a I => ?_
  cases o with
  | true =>
    refine goQ [uO .not (p := .bool true) (v := .bool false) (fun w => run_not w)] (nonR w) I fun β a w1 I hb => ?_
    exact outQ (v := dk d t f true) I ⟨rfl, I.hJ⟩
  | false =>
    obtain ⟨z, hz⟩ : ∃ z, arF f false n = z := ⟨_, rfl⟩
    rw [hz]
    obtain ⟨m, hm⟩ : ∃ m : Int, (if (131072 : Int) < n then 131072 else n) = m := ⟨_, rfl⟩
    refine goQ [uO .not (p := .bool false) (v := .bool true) (fun w => run_not w), mnO (x := n) (y := 131072) (z := m) hm, mxO (k := .i64) (x := -1) (y := m) (z := z) (by subst hm hz; unfold arF; simp only [Bool.false_eq_true, if_false]; repeat' split <;> omega)] (nonR w) I fun β a w1 I hb => ?_
    exact outQ (v := dk d t z false) I ⟨rfl, I.hJ⟩
theorem rarm_any (d t : By) (f : Int) (o : Bool) (n : Int) (w : World) : Calls Try.prog 16 #[dk d t f o, Z n] w (Rt0 (dk d t (arF f o n) o) w) := by
  refine inQ (J := Below w.heap.size w) (F := (· < w.heap.size)) Try.func16 (Below.refl _ _) fun a I => ?_
  cases o with
  | true =>
    refine goQ [uO .not (p := .bool true) (v := .bool false) (fun w => run_not w)] (nonR w) I fun β a w1 I hb => ?_
    exact outQ (v := dk d t f true) I ⟨rfl, I.hJ⟩
  | false =>
    obtain ⟨z, hz⟩ : ∃ z, arF f false n = z := ⟨_, rfl⟩
    rw [hz]
    obtain ⟨m, hm⟩ : ∃ m : Int, (if n < (-1 : Int) then -1 else n) = m := ⟨_, rfl⟩
    refine goQ [uO .not (p := .bool false) (v := .bool true) (fun w => run_not w), mxO (k := .i64) (x := n) (y := -1) (z := m) hm, mnO (x := m) (y := 131072) (z := z) (by subst hm hz; unfold arF; simp only [Bool.false_eq_true, if_false]; repeat' split <;> omega)] (nonR w) I fun β a w1 I hb => ?_
    exact outQ (v := dk d t z false) I ⟨rfl, I.hJ⟩
theorem trim_any (d t : By) (f : Int) (o : Bool) (n : Int) (w : World) : Calls Try.prog 19 #[dk d t f o, Z n] w (Rt0 (dk (if o = true then d else d.take n.toNat) t f o) w) := by
  refine inQ (J := Below w.heap.size w) (F := (· < w.heap.size)) Try.func19 (Below.refl _ _) fun a I => ?_
  cases o with
  | true =>
    refine goQ [uO .not (p := .bool true) (v := .bool false) (fun w => run_not w)] (nonR w) I fun β a w1 I hb => ?_
    exact outQ (v := dk d t f true) I ⟨rfl, I.hJ⟩
  | false =>
    have hf := first_any d n
    simp only [Bool.false_eq_true, if_false]
    generalize d.take n.toNat = d' at *
    refine goQ [uO .not (p := .bool false) (v := .bool true) (fun w => run_not w), kC Try.func24 hf] (nonR w) I fun β a w1 I hb => ?_
    exact outQ (v := dk d' t f false) I ⟨rfl, I.hJ⟩
theorem rtrim_any (d t : By) (f : Int) (o : Bool) (n : Int) (w : World) : Calls Try.prog 20 #[dk d t f o, Z n] w (Rt0 (dk (if o = true then d else d.take n.toNat) t f o) w) := by
  refine inQ (J := Below w.heap.size w) (F := (· < w.heap.size)) Try.func20 (Below.refl _ _) fun a I => ?_
  cases o with
  | true =>
    refine goQ [uO .not (p := .bool true) (v := .bool false) (fun w => run_not w)] (nonR w) I fun β a w1 I hb => ?_
    exact outQ (v := dk d t f true) I ⟨rfl, I.hJ⟩
  | false =>
    simp only [Bool.false_eq_true, if_false]
    rw [take_min]
    obtain ⟨k, hk⟩ : ∃ k, min n.toNat d.length = k := ⟨_, rfl⟩
    rw [hk]
    obtain ⟨m, hm⟩ : ∃ m : Int, (if n < (0 : Int) then 0 else n) = m := ⟨_, rfl⟩
    refine goQ [uO .not (p := .bool false) (v := .bool true) (fun w => run_not w), mxO (k := .i64) (x := n) (y := 0) (z := m) hm, lnO d, mnO (x := m) (y := d.length) (z := k) (by subst hm; split <;> split <;> omega), sT 9 (to_run (l := d) (k := k) (by omega))] (nonR w) I fun β a w1 I hb => ?_
    exact outQ (v := dk (d.take k) t f false) I ⟨rfl, I.hJ⟩
theorem crash_any (d t : By) (f : Int) (o : Bool) (n : Int) (hz : d.length + t.length ≤ 1000000000000) (w : World) : Calls Try.prog 17 #[dk d t f o, Z n] w (Rt0 (dk (d ++ t.take n.toNat) [] (-1) false) w) := by
  have hf := first_any t n
  have hl : (t.take n.toNat).length ≤ t.length := by rw [List.length_take]; omega
  generalize t.take n.toNat = t' at *
  refine inQ (J := Below w.heap.size w) (F := (· < w.heap.size)) Try.func17 (Below.refl _ _) fun a I => ?_
  refine goQ [] (nonR w) I fun β a w1 I hb => ?_
  refine dwQ 8 [kC Try.func24 hf, bO .add 9 (addS_run d t' (by omega)), dO 23 [0, 2] (bd_dk (d ++ t'))] (nonR w) PanOk.post I fun a2 w2 I => ?_
  refine goQ [] (nonR w) I fun β3 a3 w3 I hb3 => ?_
  exact outQ (v := dk (d ++ t') [] (-1) false) I ⟨rfl, I.hJ⟩
theorem rcrash_any (d t : By) (f : Int) (o : Bool) (n : Int) (hz : d.length + t.length ≤ 1000000000000) (w : World) : Calls Try.prog 18 #[dk d t f o, Z n] w (Rt0 (dk (d ++ t.take n.toNat) [] (-1) false) w) := by
  rw [take_min]
  obtain ⟨k, hk⟩ : ∃ k, min n.toNat t.length = k := ⟨_, rfl⟩
  rw [hk]
  have hl : (t.take k).length ≤ t.length := by rw [List.length_take]; omega
  obtain ⟨m, hm⟩ : ∃ m : Int, (if n < (0 : Int) then 0 else n) = m := ⟨_, rfl⟩
  refine inQ (J := Below w.heap.size w) (F := (· < w.heap.size)) Try.func18 (Below.refl _ _) fun a I => ?_
  refine goQ [mxO (k := .i64) (x := n) (y := 0) (z := m) hm, lnO t, mnO (x := m) (y := t.length) (z := k) (by subst hm; split <;> split <;> omega)] (nonR w) I fun β a w1 I hb => ?_
  refine dwQ 8 [sT 9 (to_run (l := t) (k := k) (by omega)), bO .add 9 (addS_run d (t.take k) (by omega)), dO 23 [0, 2] (bd_dk (d ++ t.take k))] (nonR w) PanOk.post I fun a2 w2 I => ?_
  refine goQ [] (nonR w) I fun β3 a3 w3 I hb3 => ?_
  exact outQ (v := dk (d ++ t.take k) [] (-1) false) I ⟨rfl, I.hJ⟩
theorem sync_any (d t : By) (f : Int) (o : Bool) (hz : d.length + t.length ≤ 1000000000000) (w : World) : Calls Try.prog 13 #[dk d t f o] w (Rt0 (.tuple #[dk (if o = true then d else d ++ t) (if o = true then t else []) f o, Z (if o = true then 26 else 0)]) w) := by
  refine inQ (J := Below w.heap.size w) (F := (· < w.heap.size)) Try.func13 (Below.refl _ _) fun a I => ?_
  cases o with
  | true =>
    refine goQ [] (nonR w) I fun β a w1 I hb => ?_
    exact outQ (v := .tuple #[dk d t f true, Z 26]) I ⟨rfl, I.hJ⟩
  | false =>
    refine goQ [bO .add 9 (addS_run d t (by omega))] (nonR w) I fun β a w1 I hb => ?_
    exact outQ (v := .tuple #[dk (d ++ t) [] f false, Z 0]) I ⟨rfl, I.hJ⟩
theorem rsync_any (d t : By) (f : Int) (o : Bool) (hz : d.length + t.length ≤ 1000000000000) (w : World) : Calls Try.prog 14 #[dk d t f o] w (Rt0 (.tuple #[dk (if o = true then d else d ++ t) (if o = true then t else []) f o, Z (if o = true then 26 else 0)]) w) := by
  refine inQ (J := Below w.heap.size w) (F := (· < w.heap.size)) Try.func14 (Below.refl _ _) fun a I => ?_
  cases o with
  | true =>
    refine goQ [] (nonR w) I fun β a w1 I hb => ?_
    exact outQ (v := .tuple #[dk d t f true, Z 26]) I ⟨rfl, I.hJ⟩
  | false =>
    refine goQ [bO .add 9 (addS_run d t (by omega))] (nonR w) I fun β a w1 I hb => ?_
    exact outQ (v := .tuple #[dk (d ++ t) [] f false, Z 0]) I ⟨rfl, I.hJ⟩
theorem begins_any {s t : By} (h : t <+: s) (w : World) : Calls Try.prog 21 #[str s, str t] w (Rt0 (.bool true) w) := by
  obtain ⟨r, rfl⟩ := h
  have hl : t.length ≤ (t ++ r).length := by rw [List.length_append]; omega
  have ht : (t ++ r).take t.length = t := List.take_left
  generalize t ++ r = s at *
  have hr := to_run (l := s) (k := t.length) hl
  rw [ht] at hr
  refine inQ (J := Below w.heap.size w) (F := (· < w.heap.size)) Try.func21 (Below.refl _ _) fun a I => ?_
  refine goQ [lnO s, lnO t, bO .geq 3 (run_geqZ (x := s.length) (y := t.length) (b := true) (decide_eq_true (by omega))), lnO t, sT 9 hr, bO .eql 9 (eqS_run (a := t) (b := t) (q := true) (decide_eq_true rfl))] (nonR w) I fun β a w1 I hb => ?_
  exact outQ (v := .bool true) I ⟨rfl, I.hJ⟩
end Go.Proofs.Ythmhlbikejodaaa
