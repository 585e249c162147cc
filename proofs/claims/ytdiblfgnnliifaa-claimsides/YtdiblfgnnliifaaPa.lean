/- Allocations and numbers in memory; what is told of one of them. -/
import Derived.Test.YtdiblfgnnliifaaJb
namespace Go.Proofs.Ytdiblfgnnliifaa
open Go.RowKit Go.Sort
set_option linter.unusedVariables false
set_option maxRecDepth 100000
/-- An allocation: to whom, how much, its kind, left and right. -/
abbrev Al : Type := ByteArray × Nat × Int × ByteArray × ByteArray
def al8 (x : Al) : List Value := [.string x.1, B (l0 x.2.1), B (l1 x.2.1), B (l2 x.2.1), B (l3 x.2.1), Z x.2.2.1, .string x.2.2.2.1, .string x.2.2.2.2]
abbrev alV (x : Al) : Value := .agg (al8 x).toArray
def C8 : Cl Al := fun K w x cs => cs = al8 x ∧ x.2.1 < W
theorem C8.loc : Loc C8 := ⟨fun _ _ _ _ _ _ _ h => h⟩
abbrev AlI (w : World) (v : Value) (l : List Al) : Prop := SlI 8 C8 (· < w.heap.size) w v l
def u4 (n : Nat) : List Value := [B (l0 n), B (l1 n), B (l2 n), B (l3 n)]
def C4 : Cl Nat := fun K w n cs => cs = u4 n ∧ n < W
theorem C4.loc : Loc C4 := ⟨fun _ _ _ _ _ _ _ h => h⟩
abbrev NuI (w : World) (v : Value) (l : List Nat) : Prop := SlI 4 C4 (· < w.heap.size) w v l
def C1 : Cl Int := fun K w i cs => cs = [Z i]
theorem C1.loc : Loc C1 := ⟨fun _ _ _ _ _ _ _ h => h⟩
abbrev InI (w : World) (v : Value) (l : List Int) : Prop := SlI 1 C1 (· < w.heap.size) w v l
theorem loadAl {w : World} {g o : Nat} {c : Al} (h : CellsAt w g o (al8 c)) : (loadVar 39 ⟨g, o, none⟩).run Try.prog w = .ok (alV c) w := loadN Try.underlying39 rfl (n := 8) (by kernel_rfl) rfl h
theorem loadU {w : World} {g o : Nat} {c : Al} (h : CellsAt w g o (al8 c)) : (loadVar 25 ⟨g, o + 1, none⟩).run Try.prog w = .ok (U c.2.1) w := by
  have h2 : CellsAt w g (o + 1) (u4 c.2.1) := fun j u hj => by
    have := h (j + 1) u (by
      unfold al8
      rw [List.getElem?_cons_succ]
      unfold u4 at hj
      match j, hj with
      | 0, hj => exact hj
      | 1, hj => exact hj
      | 2, hj => exact hj
      | 3, hj => exact hj
      | j + 4, hj => simp at hj)
    rw [show o + 1 + j = o + (j + 1) by omega]
    exact this
  exact loadN Try.underlying25 rfl (n := 4) (by kernel_rfl) rfl h2
theorem loadK {w : World} {g o : Nat} {c : Al} (h : CellsAt w g o (al8 c)) : (loadVar 3 ⟨g, o + 5, none⟩).run Try.prog w = .ok (Z c.2.2.1) w := load1 h 5 rfl 3 Try.underlying3 rfl
theorem loadD {w : World} {g o : Nat} {c : Al} (h : CellsAt w g o (al8 c)) : (loadVar 9 ⟨g, o + 0, none⟩).run Try.prog w = .ok (.string c.1) w := load1 h 0 rfl 9 Try.underlying9 rfl
theorem loadNu {w : World} {g o n : Nat} (h : CellsAt w g o (u4 n)) : (loadVar 25 ⟨g, o, none⟩).run Try.prog w = .ok (U n) w := loadN Try.underlying25 rfl (n := 4) (by kernel_rfl) rfl h
theorem loadI {w : World} {g o : Nat} {i : Int} (h : CellsAt w g o [Z i]) : (loadVar 3 ⟨g, o, none⟩).run Try.prog w = .ok (Z i) w := load1 h 0 rfl 3 Try.underlying3 rfl
theorem run_eq4d (d : Nat) (a0 a1 a2 a3 b0 b1 b2 b3 : Int) (w : World) :
    (Op.equalIn (d + 2) 25 (I4 a0 a1 a2 a3) (I4 b0 b1 b2 b3)).run Try.prog w = .ok (a0 == b0 && (a1 == b1 && (a2 == b2 && a3 == b3))) w := by
  rw [run_equalIn_array w (d + 1) _ _ Try.underlying25 info22, cells22, show List.range 4 = [0, 1, 2, 3] from rfl]
  simp [Op.eqItems, part, isAgg, run_underlying Try.underlying23, run_equalIn_int w d 23 .u64 .u64 _ _ Try.underlying23]
  by_cases h0 : a0 = b0 <;> by_cases h1 : a1 = b1 <;> by_cases h2 : a2 = b2 <;> by_cases h3 : a3 = b3 <;> simp [*]
theorem run_eqUd (d n m : Nat) (hn : n < W) (hm : m < W) (w : World) :
    (Op.equalIn (d + 2) 25 (U n) (U m)).run Try.prog w = .ok (decide (n = m)) w := by
  refine (run_eq4d d (l0 n) (l1 n) (l2 n) (l3 n) (l0 m) (l1 m) (l2 m) (l3 m) w).trans ?_
  congr 1
  rw [Bool.eq_iff_iff]
  simp only [Bool.and_eq_true, beq_iff_eq, decide_eq_true_eq]
  constructor
  · rintro ⟨h0, h1, h2, h3⟩
    exact parts_inj n m hn hm (by omega) (by omega) (by omega) (by omega)
  · rintro rfl; exact ⟨rfl, rfl, rfl, rfl⟩
theorem beq_ba (a b : ByteArray) : (a == b) = decide (a = b) := by
  have h : (a == b) = (a.data == b.data) := by cases a; cases b; rfl
  rw [h]
  by_cases e : a = b
  · subst e; simp
  · rw [decide_eq_false e]
    have : ¬ a.data = b.data := fun q => e (ByteArray.ext q)
    simpa using this
theorem run_eqSd (d : Nat) (a b : ByteArray) (w : World) : (Op.equalIn (d + 1) 9 (.string a) (.string b)).run Try.prog w = .ok (decide (a = b)) w := by
  simp [Op.equalIn, run_underlying Try.underlying9, beq_ba]
theorem info24 : Try.prog.info? 25 = some ((Try.prog.info? 25).getD default) := by kernel_rfl
theorem size24 : Try.prog.cellsOf 25 = 4 := by kernel_rfl
theorem run_eqAl (x y : Al) (hx : x.2.1 < W) (hy : y.2.1 < W) (w : World) : (Op.equalIn 10000 39 (alV x) (alV y)).run Try.prog w = .ok (decide (x = y)) w := by
  obtain ⟨a, n, k, p, r⟩ := x
  obtain ⟨c, m, j, q, s⟩ := y
  have e1 : ∀ w, (Op.equalIn 9999 9 (.string a) (.string c)).run Try.prog w = .ok (decide (a = c)) w := fun w => run_eqSd 9998 a c w
  have e2 : ∀ w, (Op.equalIn 9999 25 (U n) (U m)).run Try.prog w = .ok (decide (n = m)) w := fun w => run_eqUd 9997 n m hx hy w
  have e3 : ∀ w, (Op.equalIn 9999 3 (Z k) (Z j)).run Try.prog w = .ok (k == j) w := fun w => run_equalIn_int w 9998 3 .i64 .i64 _ _ Try.underlying3
  have e4 : ∀ w, (Op.equalIn 9999 9 (.string p) (.string q)).run Try.prog w = .ok (decide (p = q)) w := fun w => run_eqSd 9998 p q w
  have e5 : ∀ w, (Op.equalIn 9999 9 (.string r) (.string s)).run Try.prog w = .ok (decide (r = s)) w := fun w => run_eqSd 9998 r s w
  have hs : ∀ w, (sizeOf 25).run Try.prog w = .ok 4 w := fun w => by rw [run_sizeOf w info24, size24]
  have p1 : ∀ w, ∀ x : Al, (part 9 (al8 x).toArray 0).run Try.prog w = .ok (.string x.1) w := fun w x => by simp [part, isAgg, run_underlying Try.underlying9, al8]
  have p2 : ∀ w, ∀ x : Al, (part 25 (al8 x).toArray 1).run Try.prog w = .ok (U x.2.1) w := fun w x => by simp [part, isAgg, run_underlying Try.underlying25, hs, al8]
  have p3 : ∀ w, ∀ x : Al, (part 3 (al8 x).toArray 5).run Try.prog w = .ok (Z x.2.2.1) w := fun w x => by simp [part, isAgg, run_underlying Try.underlying3, al8]
  have p4 : ∀ w, ∀ x : Al, (part 9 (al8 x).toArray 6).run Try.prog w = .ok (.string x.2.2.2.1) w := fun w x => by simp [part, isAgg, run_underlying Try.underlying9, al8]
  have p5 : ∀ w, ∀ x : Al, (part 9 (al8 x).toArray 7).run Try.prog w = .ok (.string x.2.2.2.2) w := fun w x => by simp [part, isAgg, run_underlying Try.underlying9, al8]
  rw [show (10000 : Nat) = 9999 + 1 from rfl, Op.equalIn]
  simp [run_underlying Try.underlying39, e1, e2, e3, e4, e5, p1, p2, p3, p4, p5]
  by_cases h0 : a = c <;> by_cases h1 : n = m <;> by_cases h2 : k = j <;> by_cases h3 : p = q <;> by_cases h4 : r = s <;> simp [*]
theorem neqAl_run {x y : Al} (hx : x.2.1 < W) (hy : y.2.1 < W) {q : Bool} (h : decide (x ≠ y) = q) (o1 o2 : Operand) (w : World) : (do eqGuard .neq 39 o1 o2 (alV x) (alV y); binOp .neq 39 (alV x) (alV y) : Sem Value).run Try.prog w = .ok (.bool q) w := by
  have he := run_eqAl x y hx hy w
  have hg : (eqGuard .neq 39 o1 o2 (alV x) (alV y)).run Try.prog w = .ok () w := by
    unfold eqGuard
    simp [go_sem]
  simp only [Sem.run_bind, hg, Result.andThen_ok]
  unfold binOp Op.equal
  simp only [Sem.run_bind]
  rw [show Op.maxDepth = 10000 from rfl, he]
  subst h
  by_cases hq : x = y <;> simp [go_sem, hq]
section
variable {T : World → Prop}
abbrev ixA (g off n cap i : Nat) (hi : i < n) : Fa Try.prog T := iA 22 Try.underlying22 (sz := 8) (by kernel_rfl) (g := g) (off := off) (n := n) (cap := cap) hi
abbrev lnA (ad : Option Addr) (n cap : Nat) : Fa Try.prog T := lS Try.underlying22 (ad := ad) (n := n) (cap := cap) rfl
abbrev lT (x y : Int) (h : x < y) : Fa Try.prog T := bO .lss 3 (run_lssZ (x := x) (y := y) (b := true) (decide_eq_true h))
abbrev lF (x y : Int) (h : ¬ x < y) : Fa Try.prog T := bO .lss 3 (run_lssZ (x := x) (y := y) (b := false) (decide_eq_false h))
abbrev p1 (i : Nat) (h : i < 1000000000) : Fa Try.prog T := bO .add 3 (run_addZ (x := i) (y := 1) (z := (i + 1 : Nat)) (by rw [wz (by omega) (by omega)]; omega))
abbrev ntO (b : Bool) : Fa Try.prog T := uO .not (p := .bool b) (v := .bool (!b)) (fun w => run_not w)
end
theorem bd_Uz (w : World) : (Instr.build 25 (([] : List Nat).zip []).toArray).run Try.prog w = .ok (U 0) w := by kernel_rfl
end Go.Proofs.Ytdiblfgnnliifaa
