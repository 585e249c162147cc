/- Laid one behind the other: Num, Dg, Wt, Ol, Ag, Rw, Rx. -/
import GoSem.Core.Value
import Derived.KernelRfl
import Derived.Test.YtdeompgdhaomgaaGreatDoorProg
import Derived.WalkKit
import Derived.BigRegion
import Derived.Deep.RegionHeld3
import Derived.Laws.Rows
import Derived.Laws.Tables
import Derived.Deep.WholeRow
import Derived.Deep.Draws
namespace Go.Proofs.YtdeompgdhaomgaaGreatDoor
open Go.RowKit Tryz
set_option linter.unusedVariables false
set_option maxRecDepth 100000
set_option maxHeartbeats 4000000
def M : Nat := 18446744073709551616
theorem M_eq : M = 18446744073709551616 := rfl
def W : Nat := 115792089237316195423570985008687907853269984665640564039457584007913129639936
theorem W_eq : W = M * M * M * M := by decide +kernel
def l0 (n : Nat) : Nat := n % M
def l1 (n : Nat) : Nat := n / M % M
def l2 (n : Nat) : Nat := n / (M * M) % M
def l3 (n : Nat) : Nat := n / (M * M * M) % M
theorem kr (n : Nat) : l0 n < M := Nat.mod_lt _ (by decide)
theorem l1_lt (n : Nat) : l1 n < M := Nat.mod_lt _ (by decide)
theorem l2_lt (n : Nat) : l2 n < M := Nat.mod_lt _ (by decide)
theorem l3_lt (n : Nat) : l3 n < M := Nat.mod_lt _ (by decide)
/-- A number of its parts. -/
def mk (a b c d : Nat) : Nat := a + M * (b + M * (c + M * d))
theorem l0_mk (a b c d : Nat) (ha : a < M) : l0 (mk a b c d) = a := by
  unfold l0 mk; rw [Nat.add_mul_mod_self_left, Nat.mod_eq_of_lt ha]
theorem mk_div (a x : Nat) (ha : a < M) : (a + M * x) / M = x := by
  rw [Nat.add_mul_div_left _ _ (by decide), Nat.div_eq_of_lt ha, Nat.zero_add]
theorem l1_mk (a b c d : Nat) (ha : a < M) (hb : b < M) : l1 (mk a b c d) = b := by
  unfold l1 mk; rw [mk_div _ _ ha, Nat.add_mul_mod_self_left, Nat.mod_eq_of_lt hb]
theorem l2_mk (a b c d : Nat) (ha : a < M) (hb : b < M) (hc : c < M) : l2 (mk a b c d) = c := by
  unfold l2 mk; rw [← Nat.div_div_eq_div_mul, mk_div _ _ ha, mk_div _ _ hb, Nat.add_mul_mod_self_left, Nat.mod_eq_of_lt hc]
theorem l3_mk (a b c d : Nat) (ha : a < M) (hb : b < M) (hc : c < M) (hd : d < M) : l3 (mk a b c d) = d := by
  unfold l3 mk; rw [← Nat.div_div_eq_div_mul, ← Nat.div_div_eq_div_mul, mk_div _ _ ha, mk_div _ _ hb, mk_div _ _ hc, Nat.mod_eq_of_lt hd]
theorem mk_lt (a b c d : Nat) (ha : a < M) (hb : b < M) (hc : c < M) (hd : d < M) : mk a b c d < W := by
  unfold mk; rw [W_eq]; unfold M at *; omega
theorem qq (n : Nat) (h : n < W) : mk (l0 n) (l1 n) (l2 n) (l3 n) = n := by
  rw [W_eq] at h
  unfold mk l0 l1 l2 l3 M at *
  omega
/-- The sum of two parts and a carry, and the carry. -/
def sm (x y c : Nat) : Nat := (x + y + c) % M
def cy (x y c : Nat) : Nat := if x + y + c < M then 0 else 1
theorem cy_le (x y c : Nat) : cy x y c ≤ 1 := by unfold cy; split <;> omega
theorem sm_lt (x y c : Nat) : sm x y c < M := Nat.mod_lt _ (by decide)
theorem cy_eq (x y c : Nat) (hx : x < M) (hy : y < M) (hc : c ≤ 1) : (x + y + c) / M = cy x y c := by
  unfold cy M at *; split <;> omega
theorem sm_cy (x y c : Nat) (hx : x < M) (hy : y < M) (hc : c ≤ 1) : sm x y c + M * cy x y c = x + y + c := by
  unfold sm cy M at *; split <;> omega
/-- The difference of two parts and a borrow, and the borrow. -/
def df (x y c : Nat) : Nat := (x + M - y - c) % M
abbrev RT (f:Nat) (x:Array Value) (v:Value):Prop:=∀ w:World,Calls Tryz.prog f x w fun e w'=>e=.returned v∧Below w.heap.size w w'
def D : Nat := 4294967296
/-- The number of n digits, from place k on. -/
def vl (f : Nat → Nat) (k : Nat) : Nat → Nat
  | 0 => 0
  | n + 1 => vl f k n + f (k + n) * D ^ n
abbrev B (x : Nat) : Value := .int .u64 (x : Int)
abbrev U4 (a b c d : Nat) : Value := .agg #[B a, B b, B c, B d]
abbrev I4 (a b c d : Int) : Value := .agg #[.int .u64 a, .int .u64 b, .int .u64 c, .int .u64 d]
abbrev U (n : Nat) : Value := U4 (l0 n) (l1 n) (l2 n) (l3 n)
theorem of_raw (a : Nat) (w : World) : Calls Tryz.prog 121 #[B a] w fun e w' => e = .returned (I4 a 0 0 0) ∧ Below w.heap.size w w' := by
  go_enter Tryz.func121, Tryz.ntmps121
  go_wp2
  exact bodyPost_ret (v := I4 a 0 0 0) (by simp [results, Tryz.results121, go_sem]) rfl ⟨rfl, (by repeat (first | exact Below.refl _ _ | apply Below.drew | refine Below.alloc ?_ (by simp; try omega) _))⟩
theorem zdb {w a : World} (h : Below w.heap.size w a) (o : Obj) : Below w.heap.size w (a.alloc o) := h.alloc h.size o
/-- The cells of an array of n integers of a kind. -/
def ag (k : IntKind) (n : Nat) (f : Nat → Nat) : Array Value := Array.ofFn (n := n) fun i => Value.int k ((f i.val : Nat) : Int)
theorem ag_size (k : IntKind) (n : Nat) (f : Nat → Nat) : (ag k n f).size = n := by simp [ag]
section
variable {P : Program}

/-- The block n holds the row c; with another row there the world is F of it. -/
def RowAt (w : World) (n : Nat) (c : Array Value) (t : TypeId) (F : Array Value → World) : Prop :=
  w.heap[n]? = some (.cells c t (0, 0)) ∧ ∀ c', w.setRow n c' = F c'
theorem RowAt.last {w : World} {n : Nat} {c : Array Value} {t : TypeId} (h : n = w.heap.size) : RowAt (w.alloc (.cells c t)) n c t (fun c' => w.alloc (.cells c' t)) := by
  subst h
  exact ⟨heap_alloc_last w _, fun c' => World.setRow_alloc_new w c c' t⟩
theorem RowAt.old {w : World} {n : Nat} {c : Array Value} {t : TypeId} {F : Array Value → World} {o : Obj} (h : RowAt w n c t F) : RowAt (w.alloc o) n c t (fun c' => (F c').alloc o) := by
  obtain ⟨h1, h2⟩ := h
  have hlt : n < w.heap.size := (Array.getElem?_eq_some_iff.1 h1).1
  refine ⟨by rw [heap_alloc_old w o hlt]; exact h1, fun c' => ?_⟩
  show (w.alloc o).setRow n c' = (F c').alloc o
  rw [← h2 c']
  simp only [World.setRow, World.alloc]
  congr 1
  apply Array.ext_getElem?
  intro i
  rw [Array.getElem?_modify, Array.getElem?_push, Array.getElem?_push, Array.size_modify, Array.getElem?_modify]
  by_cases hi : i = w.heap.size
  · have hn : ¬ n = i := by omega
    simp [hi]
    intro hh; omega
  · simp [hi]
theorem RowAt.of {w : World} {n : Nat} {c : Array Value} {t : TypeId} (h : w.heap[n]? = some (.cells c t (0, 0))) : RowAt w n c t (fun c' => w.setRow n c') := ⟨h, fun _ => rfl⟩
/-- The block g holds the row c, whatever its mark. -/
def zb (w : World) (g : Nat) (c : Array Value) : Prop := ∃ t, w.heap[g]? = some (.cells c t (0, 0))
theorem zb.last {w : World} {n : Nat} {c : Array Value} {t : TypeId} (h : n = w.heap.size) : zb (w.alloc (.cells c t)) n c := ⟨t, by subst h; exact heap_alloc_last w _⟩
theorem zb.old {w : World} {n : Nat} {c : Array Value} {o : Obj} (h : zb w n c) : zb (w.alloc o) n c := by
  obtain ⟨t, h⟩ := h
  have hlt : n < w.heap.size := (Array.getElem?_eq_some_iff.1 h).1
  exact ⟨t, by rw [heap_alloc_old w o hlt]; exact h⟩
/-- A row of m cells stored into block g makes of w the world W'. -/
def k9 (w : World) (g m : Nat) (c' : Array Value) (W' : World) : Prop := ∃ old t, w.heap[g]? = some (.cells old t (0, 0)) ∧ old.size = m ∧ w.setRow g c' = W'
theorem k9.last {w : World} {n m : Nat} {c c' : Array Value} {t : TypeId} (h : n = w.heap.size) (hm : c.size = m) : k9 (w.alloc (.cells c t)) n m c' (w.alloc (.cells c' t)) :=
  ⟨c, t, by subst h; exact heap_alloc_last w _, hm, by subst h; exact World.setRow_alloc_new w c c' t⟩
theorem k9.old {w W' : World} {n m : Nat} {c' : Array Value} {o : Obj} (h : k9 w n m c' W') : k9 (w.alloc o) n m c' (W'.alloc o) := by
  obtain ⟨old, t, h1, h2, h3⟩ := h
  obtain ⟨k1, k2⟩ := RowAt.old (o := o) (RowAt.of h1)
  exact ⟨old, t, k1, h2, by rw [k2 c', ← h3]⟩
/-- The array c is the row of n integers. -/
structure IsRow (c : Array Value) (k : IntKind) (n : Nat) (f : Nat → Nat) : Prop where
  eq : c = ag k n f
theorem IsRow.size {c : Array Value} {k : IntKind} {n : Nat} {f : Nat → Nat} (h : IsRow c k n f) : c.size = n := by rw [h.eq]; exact ag_size k n f
theorem zb.drewN {w : World} {n : Nat} {c : Array Value} (h : zb w n c) (q : Nat) : zb (w.drewN q) n c := h
theorem k9.drewN {w W' : World} {n m : Nat} {c' : Array Value} (h : k9 w n m c' W') (q : Nat) : k9 (w.drewN q) n m c' (W'.drewN q) := by
  obtain ⟨old, t, h1, h2, h3⟩ := h
  exact ⟨old, t, h1, h2, by rw [← h3]; rfl⟩
theorem setCell_drewN (w : World) (n : Nat) (a : Addr) (v : Value) : (w.drewN n).setCell a v = (w.setCell a v).drewN n := by
  unfold World.drewN World.setCell
  split <;> rfl
theorem below_drewN {B : Nat} {a w : World} (h : Below B a w) (n : Nat) : Below B a (w.drewN n) := ⟨h.os, h.tape, h.output, h.size, h.block⟩
end
section
variable {P : Program}
theorem zb.lt {w : World} {g : Nat} {c : Array Value} (h : zb w g c) : g < w.heap.size := by
  obtain ⟨t, h⟩ := h
  exact (Array.getElem?_eq_some_iff.1 h).1
theorem zb.below {w w' : World} {g : Nat} {c : Array Value} (h : zb w g c) (hb : Below w.heap.size w w') : zb w' g c := by
  have hlt := h.lt
  obtain ⟨t, h⟩ := h
  exact ⟨t, by rw [hb.block g hlt]; exact h⟩
theorem zb.cell {w : World} {g : Nat} {c : Array Value} (h : zb w g c) (i : Nat) : w.cell? ⟨g, i, none⟩ = c[i]? := by
  obtain ⟨t, h⟩ := h
  exact cell_of_row w g i c t (0, 0) h
theorem zaf (w : World) (g : Nat) (c : Array Value) : (w.setRow g c).heap.size = w.heap.size := by simp [World.setRow]
theorem zb.set_same {w : World} {g : Nat} {c : Array Value} (h : zb w g c) (c' : Array Value) : zb (w.setRow g c') g c' := by
  obtain ⟨t, h⟩ := h
  refine ⟨t, ?_⟩
  simp only [World.setRow, Array.getElem?_modify, h]
  simp
theorem zb.set_other {w : World} {g g' : Nat} {c : Array Value} (h : zb w g c) (c' : Array Value) (hne : g' ≠ g) : zb (w.setRow g' c') g c := by
  obtain ⟨t, h⟩ := h
  refine ⟨t, ?_⟩
  simp only [World.setRow, Array.getElem?_modify, h]
  simp [hne]
theorem k9.row {w : World} {g m : Nat} {c c' : Array Value} (h : zb w g c) (hm : c.size = m) : k9 w g m c' (w.setRow g c') := by
  obtain ⟨t, h⟩ := h
  exact ⟨c, t, h, hm, rfl⟩
theorem kg {B : Nat} {a w : World} (h : Below B a w) {g : Nat} (hg : B ≤ g) (c : Array Value) : Below B a (w.setRow g c) :=
  ⟨h.os, h.tape, h.output, by rw [zaf]; exact h.size, fun b hb => by
    rw [← h.block b hb]
    simp only [World.setRow, Array.getElem?_modify]
    have : ¬ g = b := by omega
    simp [this]⟩
theorem zb.setCell {w : World} {g : Nat} {c : Array Value} (h : zb w g c) (i : Nat) (v : Value) : w.setCell ⟨g, i, none⟩ v = w.setRow g (c.setIfInBounds i v) := by
  obtain ⟨t, h⟩ := h
  unfold World.setCell World.setRow
  congr 1
  apply Array.ext_getElem?
  intro j
  simp only [Array.getElem?_modify]
  by_cases hj : g = j
  · subst hj; simp [h]
  · simp [hj]
end
end Go.Proofs.YtdeompgdhaomgaaGreatDoor
