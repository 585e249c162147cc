/- Accounts in memory; what is told of one of them. -/
import Derived.Test.YtpjplicioidknaaJb
namespace Go.Proofs.Ytpjplicioidknaa
open Go.RowKit Go.Sort
set_option linter.unusedVariables false
set_option maxRecDepth 100000
def co6 (c : Co) : List Value := [.string c.1, .string c.2.1, B (l0 c.2.2), B (l1 c.2.2), B (l2 c.2.2), B (l3 c.2.2)]
abbrev coV (c : Co) : Value := .agg (co6 c).toArray
def C6 : Cl Co := fun K w c cs => cs = co6 c ∧ c.2.2 < W
theorem C6.loc : Loc C6 := ⟨fun _ _ _ _ _ _ _ h => h⟩
abbrev CoI (w : World) (v : Value) (l : List Co) : Prop := SlI 6 C6 (· < w.heap.size) w v l
theorem SlI.low {K : Nat → Prop} {w : World} {v : Value} {l : List Co} (h : SlI 6 C6 K w v l) (hk : ∀ k, K k → k < w.heap.size) : CoI w v l := h.keep C6.loc fun k h => ⟨hk k h, rfl⟩
theorem loadCo {w : World} {g o : Nat} {c : Co} (h : CellsAt w g o (co6 c)) : (loadVar 41 ⟨g, o, none⟩).run Try.prog w = .ok (coV c) w := loadN Try.underlying41 rfl (n := 6) (by kernel_rfl) rfl h
theorem loadW {w : World} {g o : Nat} {c : Co} (h : CellsAt w g o (co6 c)) : (loadVar 9 ⟨g, o + 0, none⟩).run Try.prog w = .ok (.string c.1) w := load1 h 0 rfl 9 Try.underlying9 rfl
theorem loadA {w : World} {g o : Nat} {c : Co} (h : CellsAt w g o (co6 c)) : (loadVar 9 ⟨g, o + 1, none⟩).run Try.prog w = .ok (.string c.2.1) w := load1 h 1 rfl 9 Try.underlying9 rfl
theorem loadU {w : World} {g o : Nat} {c : Co} (h : CellsAt w g o (co6 c)) : (loadVar 27 ⟨g, o + 2, none⟩).run Try.prog w = .ok (U c.2.2) w := by
  have h2 : CellsAt w g (o + 2) [B (l0 c.2.2), B (l1 c.2.2), B (l2 c.2.2), B (l3 c.2.2)] := fun j u hj => by
    have := h (j + 2) u (by unfold co6; simpa using hj)
    rw [show o + 2 + j = o + (j + 2) by omega]
    exact this
  exact loadN Try.underlying27 rfl (n := 4) (by kernel_rfl) rfl h2
theorem lssT_run {a b : ByteArray} {q : Bool} (h : ltB a b = q) (x y : Operand) (w : World) : (do eqGuard .lss 9 x y (.string a) (.string b); binOp .lss 9 (.string a) (.string b) : Sem Value).run Try.prog w = .ok (.bool q) w := by
  rw [← h]
  simp [go_sem]
  rfl
theorem run_eq4d (d : Nat) (a0 a1 a2 a3 b0 b1 b2 b3 : Int) (w : World) :
    (Op.equalIn (d + 2) 27 (I4 a0 a1 a2 a3) (I4 b0 b1 b2 b3)).run Try.prog w = .ok (a0 == b0 && (a1 == b1 && (a2 == b2 && a3 == b3))) w := by
  rw [run_equalIn_array w (d + 1) _ _ Try.underlying27 info22, cells22, show List.range 4 = [0, 1, 2, 3] from rfl]
  simp [Op.eqItems, part, isAgg, run_underlying Try.underlying25, run_equalIn_int w d 25 .u64 .u64 _ _ Try.underlying25]
  by_cases h0 : a0 = b0 <;> by_cases h1 : a1 = b1 <;> by_cases h2 : a2 = b2 <;> by_cases h3 : a3 = b3 <;> simp [*]
theorem run_eqUd (d n m : Nat) (hn : n < W) (hm : m < W) (w : World) :
    (Op.equalIn (d + 2) 27 (U n) (U m)).run Try.prog w = .ok (decide (n = m)) w := by
  refine (run_eq4d d (l0 n) (l1 n) (l2 n) (l3 n) (l0 m) (l1 m) (l2 m) (l3 m) w).trans ?_
  congr 1
  rw [Bool.eq_iff_iff]
  simp only [Bool.and_eq_true, beq_iff_eq, decide_eq_true_eq]
  constructor
  · rintro ⟨h0, h1, h2, h3⟩
    exact parts_inj n m hn hm (by omega) (by omega) (by omega) (by omega)
  · rintro rfl; exact ⟨rfl, rfl, rfl, rfl⟩
theorem beq_ba (a b : ByteArray) : (a == b) = decide (a = b) := by
  have h : (a == b) = (a.data == b.data) := by cases a; cases b; rfl
  rw [h]
  by_cases e : a = b
  · subst e; simp
  · rw [decide_eq_false e]
    have : ¬ a.data = b.data := fun q => e (ByteArray.ext q)
    simpa using this
theorem run_eqSd (d : Nat) (a b : ByteArray) (w : World) : (Op.equalIn (d + 1) 9 (.string a) (.string b)).run Try.prog w = .ok (decide (a = b)) w := by
  simp [Op.equalIn, run_underlying Try.underlying9, beq_ba]
theorem info27 : Try.prog.info? 27 = some ((Try.prog.info? 27).getD default) := by kernel_rfl
theorem size27 : Try.prog.cellsOf 27 = 4 := by kernel_rfl
theorem run_eqCo (x y : Co) (hx : x.2.2 < W) (hy : y.2.2 < W) (w : World) : (Op.equalIn 10000 41 (coV x) (coV y)).run Try.prog w = .ok (decide (x = y)) w := by
  obtain ⟨a, b, n⟩ := x
  obtain ⟨c, d, m⟩ := y
  have e1 : ∀ w, (Op.equalIn 9999 9 (.string a) (.string c)).run Try.prog w = .ok (decide (a = c)) w := fun w => run_eqSd 9998 a c w
  have e2 : ∀ w, (Op.equalIn 9999 9 (.string b) (.string d)).run Try.prog w = .ok (decide (b = d)) w := fun w => run_eqSd 9998 b d w
  have e3 : ∀ w, (Op.equalIn 9999 27 (U n) (U m)).run Try.prog w = .ok (decide (n = m)) w := fun w => run_eqUd 9997 n m hx hy w
  have hs : ∀ w, (sizeOf 27).run Try.prog w = .ok 4 w := fun w => by rw [run_sizeOf w info27, size27]
  have p1 : ∀ s w, ∀ x : Co, x.1 = s → (part 9 (co6 x).toArray 0).run Try.prog w = .ok (.string s) w := fun s w x hx => by subst hx; simp [part, isAgg, run_underlying Try.underlying9, co6]
  have p2 : ∀ s w, ∀ x : Co, x.2.1 = s → (part 9 (co6 x).toArray 1).run Try.prog w = .ok (.string s) w := fun s w x hx => by subst hx; simp [part, isAgg, run_underlying Try.underlying9, co6]
  have p3 : ∀ n w, ∀ x : Co, x.2.2 = n → (part 27 (co6 x).toArray 2).run Try.prog w = .ok (U n) w := fun n w x hx => by subst hx; simp [part, isAgg, run_underlying Try.underlying27, hs, co6]
  rw [show (10000 : Nat) = 9999 + 1 from rfl, Op.equalIn]
  simp [run_underlying Try.underlying41, e1, e2, e3, p1 a w (a, b, n) rfl, p1 c w (c, d, m) rfl, p2 b w (a, b, n) rfl, p2 d w (c, d, m) rfl, p3 n w (a, b, n) rfl, p3 m w (c, d, m) rfl]
  by_cases h0 : a = c <;> by_cases h1 : b = d <;> by_cases h2 : n = m <;> simp [*]
theorem neqCo_run {x y : Co} (hx : x.2.2 < W) (hy : y.2.2 < W) {q : Bool} (h : decide (x ≠ y) = q) (o1 o2 : Operand) (w : World) : (do eqGuard .neq 41 o1 o2 (coV x) (coV y); binOp .neq 41 (coV x) (coV y) : Sem Value).run Try.prog w = .ok (.bool q) w := by
  have he := run_eqCo x y hx hy w
  have hg : (eqGuard .neq 41 o1 o2 (coV x) (coV y)).run Try.prog w = .ok () w := by
    unfold eqGuard
    simp [go_sem]
  simp only [Sem.run_bind, hg, Result.andThen_ok]
  unfold binOp Op.equal
  simp only [Sem.run_bind]
  rw [show Op.maxDepth = 10000 from rfl, he]
  subst h
  by_cases hq : x = y <;> simp [go_sem, hq]
section
variable {T : World → Prop}
abbrev ixC (g off n cap i : Nat) (hi : i < n) : Fa Try.prog T := iA 22 Try.underlying22 (sz := 6) (by kernel_rfl) (g := g) (off := off) (n := n) (cap := cap) hi
abbrev lnC (ad : Option Addr) (n cap : Nat) : Fa Try.prog T := lS Try.underlying22 (ad := ad) (n := n) (cap := cap) rfl
abbrev lT (x y : Int) (h : x < y) : Fa Try.prog T := bO .lss 3 (run_lssZ (x := x) (y := y) (b := true) (decide_eq_true h))
abbrev lF (x y : Int) (h : ¬ x < y) : Fa Try.prog T := bO .lss 3 (run_lssZ (x := x) (y := y) (b := false) (decide_eq_false h))
abbrev p1 (i : Nat) (h : i < 1000000000) : Fa Try.prog T := bO .add 3 (run_addZ (x := i) (y := 1) (z := (i + 1 : Nat)) (by rw [wz (by omega) (by omega)]; omega))
abbrev ntO (b : Bool) : Fa Try.prog T := uO .not (p := .bool b) (v := .bool (!b)) (fun w => run_not w)
abbrev sz9 (s : ByteArray) : Fa Try.prog T := lO Try.underlying9 (b := s) (n := s.size) rfl
end
theorem bd_Uz (w : World) : (Instr.build 27 (([] : List Nat).zip []).toArray).run Try.prog w = .ok (U 0) w := by kernel_rfl
theorem few_any {w : World} {v : Value} {l : List Co} (h : CoI w v l) : Calls Try.prog 7 #[v] w fun e w' => e = .returned (.bool (decide (l.length ≤ 100))) ∧ Below w.heap.size w w' := by
  obtain ⟨ad, cap, rfl, hm⟩ := h
  refine inQ (J := Below w.heap.size w) (F := (· < w.heap.size)) Try.func7 (Below.refl _ _) fun a I => ?_
  obtain ⟨q, hq⟩ : ∃ q, decide (l.length ≤ 100) = q := ⟨_, rfl⟩
  have hq' : decide ((l.length : Int) ≤ 100) = q := by rw [← hq]; congr 1; apply propext; omega
  rw [hq]
  refine goQ [lnC ad l.length cap, bO .leq 3 (run_leqZ (x := l.length) (y := 100) (b := q) hq')] (nonR w) I fun β a w1 I hb => ?_
  exact outQ (v := .bool q) I ⟨rfl, I.hJ⟩
def nmB (a b : ByteArray) : Bool := decide (a.size = 20) && decide (b.size = 20)
theorem named_any (x y : ByteArray) (w : World) : Calls Try.prog 29 #[.string x, .string y] w fun e w' => e = .returned (.bool (nmB x y)) ∧ Below w.heap.size w w' := by
  refine inQ (J := Below w.heap.size w) (F := (· < w.heap.size)) Try.func29 (Below.refl _ _) fun a I => ?_
  by_cases h1 : x.size = 20
  · obtain ⟨q, hq⟩ : ∃ q, decide (y.size = 20) = q := ⟨_, rfl⟩
    have hq' : decide ((y.size : Int) = 20) = q := by rw [← hq]; congr 1; apply propext; omega
    have : nmB x y = q := by unfold nmB; rw [decide_eq_true h1, hq]; rfl
    rw [this]
    refine goQ [sz9 x, bO .eql 3 (run_eqlZ (x := x.size) (y := 20) (b := true) (decide_eq_true (by omega))), sz9 y, bO .eql 3 (run_eqlZ (x := y.size) (y := 20) (b := q) hq')] (nonR w) I fun β a w1 I hb => ?_
    exact outQ (v := .bool q) I ⟨rfl, I.hJ⟩
  · have : nmB x y = false := by unfold nmB; rw [decide_eq_false h1]; rfl
    rw [this]
    refine goQ [sz9 x, bO .eql 3 (run_eqlZ (x := x.size) (y := 20) (b := false) (decide_eq_false (by omega)))] (nonR w) I fun β a w1 I hb => ?_
    exact outQ (v := .bool false) I ⟨rfl, I.hJ⟩
theorem isOver_any (n m : Nat) (hn : n < W) (hm : m < W) (w : World) : Calls Try.prog 31 #[U n, U m] w fun e w' => e = .returned (.bool (ovW n m)) ∧ Below w.heap.size w w' := by
  have hA := add_any n m hn hm
  generalize ovW n m = q at *
  generalize addW n m = s at *
  unfold U at *
  generalize l0 n = n0 at *
  generalize l1 n = n1 at *
  generalize l2 n = n2 at *
  generalize l3 n = n3 at *
  generalize l0 m = m0 at *
  generalize l1 m = m1 at *
  generalize l2 m = m2 at *
  generalize l3 m = m3 at *
  generalize l0 s = s0 at *
  generalize l1 s = s1 at *
  generalize l2 s = s2 at *
  generalize l3 s = s3 at *
  refine inQ (J := Below w.heap.size w) (F := (· < w.heap.size)) Try.func31 (Below.refl _ _) fun a I => ?_
  refine goQ [kC Try.func22 hA] (nonR w) I fun β a w1 I hb => ?_
  exact outQ (v := .bool q) I ⟨rfl, I.hJ⟩
theorem before_any (c : Co) (x y : ByteArray) (w : World) : Calls Try.prog 27 #[coV c, .string x, .string y] w fun e w' => e = .returned (.bool (ltK (ky c) (x, y))) ∧ Below w.heap.size w w' := by
  obtain ⟨s, t, n⟩ := c
  have e : ltK (ky (s, t, n)) (x, y) = (ltB s x || (decide (s = x) && ltB t y)) := rfl
  rw [e]
  unfold coV co6
  simp only []
  generalize l0 n = n0 at *
  generalize l1 n = n1 at *
  generalize l2 n = n2 at *
  generalize l3 n = n3 at *
  refine inQ (J := Below w.heap.size w) (F := (· < w.heap.size)) Try.func27 (Below.refl _ _) fun a I => ?_
  cases h1 : ltB s x with
  | true =>
    refine goQ [bO .lss 9 (lssT_run (a := s) (b := x) (q := true) h1)] (nonR w) I fun β a w1 I hb => ?_
    exact outQ (v := .bool true) I ⟨rfl, I.hJ⟩
  | false =>
    by_cases h2 : s = x
    · obtain ⟨q, hq⟩ : ∃ q, ltB t y = q := ⟨_, rfl⟩
      rw [decide_eq_true h2, hq]
      refine goQ [bO .lss 9 (lssT_run (a := s) (b := x) (q := false) h1), bO .eql 9 (eqT_run (a := s) (b := x) (q := true) (decide_eq_true h2)), bO .lss 9 (lssT_run (a := t) (b := y) (q := q) hq)] (nonR w) I fun β a w1 I hb => ?_
      exact outQ (v := .bool q) I ⟨by simp, I.hJ⟩
    · rw [decide_eq_false h2]
      refine goQ [bO .lss 9 (lssT_run (a := s) (b := x) (q := false) h1), bO .eql 9 (eqT_run (a := s) (b := x) (q := false) (decide_eq_false h2))] (nonR w) I fun β a w1 I hb => ?_
      exact outQ (v := .bool false) I ⟨rfl, I.hJ⟩
end Go.Proofs.Ytpjplicioidknaa
