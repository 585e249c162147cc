/- Laid one behind the other: Hn, Hs, Hm, Hp, Hq. -/
import Derived.Test.YthkpgfbjdabflaaGreatDoorKrNv
import Derived.Test.YthkpgfbjdabflaaGreatDoorKrNum
import Derived.Laws.Bits64b
import Derived.Test.YthkpgfbjdabflaaGreatDoorKrGu
import Derived.Test.YthkpgfbjdabflaaGreatDoorKrLa
import Derived.Deep.Draws
import Derived.WalkSmall
import Derived.BigRegion
import Derived.Deep.Cut
import Derived.BigQuiet
namespace Go.Proofs.YthkpgfbjdabflaaGreatDoor
open Go.RowKit
set_option linter.unusedVariables false

theorem xor_lt {a b : Nat} (ha : a < M) (hb : b < M) : a ^^^ b < M := by rw [M_pow] at *; exact Nat.xor_lt_two_pow ha hb
theorem or_lt {a b : Nat} (ha : a < M) (hb : b < M) : a ||| b < M := by rw [M_pow] at *; exact Nat.or_lt_two_pow ha hb
/-- What the second has and the first has not. -/
def hnt (b c : Nat) : Nat := c &&& (M - 1 - b)
/-- Turned up by k bits. -/
def rt (x k : Nat) : Nat := (x * 2 ^ k % M) ||| (x / 2 ^ (64 - k))
theorem rt_lt {x : Nat} (k : Nat) (hx : x < M) : rt x k < M := or_lt (Nat.mod_lt _ (by decide)) (Nat.lt_of_le_of_lt (Nat.div_le_self _ _) hx)
/-- The parts of a row of five are below. -/
abbrev P25 (f : Nat → Nat) : Prop := ∀ i, i < 25 → f i < M
def n1 (i : Nat) : Nat := i / 5 * 5 + (i % 5 + 1) % 5
def n2 (i : Nat) : Nat := i / 5 * 5 + (i % 5 + 2) % 5
/-- The step that is no sum of bits. -/
def chi (f : Nat → Nat) (i : Nat) : Nat := f i ^^^ hnt (f (n1 i)) (f (n2 i))
def col (f : Nat → Nat) (x : Nat) : Nat := f x ^^^ f (x + 5) ^^^ f (x + 10) ^^^ f (x + 15) ^^^ f (x + 20)
def dd (f : Nat → Nat) (x : Nat) : Nat := col f ((x + 4) % 5) ^^^ rt (col f ((x + 1) % 5)) 1
def theta (f : Nat → Nat) (i : Nat) : Nat := f i ^^^ dd f (i % 5)
theorem col_lt {f : Nat → Nat} (h : P25 f) {x : Nat} (hx : x < 5) : col f x < M :=
  xor_lt (xor_lt (xor_lt (xor_lt (h _ (by omega)) (h _ (by omega))) (h _ (by omega))) (h _ (by omega))) (h _ (by omega))
theorem dd_lt {f : Nat → Nat} (h : P25 f) (x : Nat) : dd f x < M := xor_lt (col_lt h (by omega)) (rt_lt _ (col_lt h (by omega)))
theorem theta_lt {f : Nat → Nat} (h : P25 f) : P25 (theta f) := fun i hi => xor_lt (h i hi) (dd_lt h _)
end Go.Proofs.YthkpgfbjdabflaaGreatDoor
namespace Go.Proofs.YthkpgfbjdabflaaGreatDoor
open Go.RowKit
set_option linter.unusedVariables false
attribute [local go_sem] setCell_drewN

abbrev z25 : Array Value := #[.int .u64 0, .int .u64 0, .int .u64 0, .int .u64 0, .int .u64 0, .int .u64 0, .int .u64 0, .int .u64 0, .int .u64 0, .int .u64 0, .int .u64 0, .int .u64 0, .int .u64 0, .int .u64 0, .int .u64 0, .int .u64 0, .int .u64 0, .int .u64 0, .int .u64 0, .int .u64 0, .int .u64 0, .int .u64 0, .int .u64 0, .int .u64 0, .int .u64 0]
abbrev A25 (f : Nat → Nat) : Value := .agg (ag .u64 25 f)
theorem upd_at (f : Nat → Nat) (i x j : Nat) : upd f i x j = if j = i then x else f j := rfl
/-- What is laid behind j rows. -/
structure hSI (f h : Nat → Nat) (j : Nat) : Prop where
  hv : ∀ i, i < 25 → h i = if i < 5 * j then chi f i else 0
theorem hSI.step {f h : Nat → Nat} {j : Nat} (hj : j < 5) (s : hSI f h j) : hSI f (upd (upd (upd (upd (upd h (5 * j) (f (5 * j) ^^^ hnt (f (5 * j + 1)) (f (5 * j + 2)))) (5 * j + 1) (f (5 * j + 1) ^^^ hnt (f (5 * j + 2)) (f (5 * j + 3)))) (5 * j + 2) (f (5 * j + 2) ^^^ hnt (f (5 * j + 3)) (f (5 * j + 4)))) (5 * j + 3) (f (5 * j + 3) ^^^ hnt (f (5 * j + 4)) (f (5 * j)))) (5 * j + 4) (f (5 * j + 4) ^^^ hnt (f (5 * j)) (f (5 * j + 1)))) (j + 1) where
  hv i hi := by
    simp only [upd_at]
    have key : ∀ m, m < 5 → i = 5 * j + m → n1 i = 5 * j + (m + 1) % 5 ∧ n2 i = 5 * j + (m + 2) % 5 := by
      intro m hm e; subst e; unfold n1 n2
      rw [show (5 * j + m) / 5 = j by omega, show (5 * j + m) % 5 = m by omega]
      omega
    have c : ∀ m, m < 5 → i = 5 * j + m → chi f i = f (5 * j + m) ^^^ hnt (f (5 * j + (m + 1) % 5)) (f (5 * j + (m + 2) % 5)) := by
      intro m hm e; obtain ⟨e1, e2⟩ := key m hm e; unfold chi; rw [e1, e2, e]
    by_cases h4 : i = 5 * j + 4
    · rw [if_pos h4, if_pos (by omega), c 4 (by omega) h4]; rfl
    by_cases h3 : i = 5 * j + 3
    · rw [if_neg h4, if_pos h3, if_pos (by omega), c 3 (by omega) h3]; rfl
    by_cases h2 : i = 5 * j + 2
    · rw [if_neg h4, if_neg h3, if_pos h2, if_pos (by omega), c 2 (by omega) h2]
    by_cases h1 : i = 5 * j + 1
    · rw [if_neg h4, if_neg h3, if_neg h2, if_pos h1, if_pos (by omega), c 1 (by omega) h1]
    by_cases h0 : i = 5 * j
    · rw [if_neg h4, if_neg h3, if_neg h2, if_neg h1, if_pos h0, if_pos (by omega), c 0 (by omega) h0]; rfl
    rw [if_neg h4, if_neg h3, if_neg h2, if_neg h1, if_neg h0, s.hv i hi]
    by_cases hl : i < 5 * j
    · rw [if_pos hl, if_pos (by omega)]
    · rw [if_neg hl, if_neg (by omega)]
theorem HasRow.at {w : World} {g n : Nat} {k : IntKind} {f : Nat → Nat} (h : HasRow w g (ag k n f)) {i : Nat} (hi : i < n) : w.cell? ⟨g, i, none⟩ = some (.int k (f i : Nat)) := by
  rw [h.cell, ag_get, if_pos hi]
end Go.Proofs.YthkpgfbjdabflaaGreatDoor
namespace Go.Proofs.YthkpgfbjdabflaaGreatDoor
open Go.RowKit
set_option linter.unusedVariables false

def htn (i : Nat) : Nat := ([0, 1, 62, 28, 27, 36, 44, 6, 55, 20, 3, 10, 43, 25, 39, 41, 45, 15, 21, 8, 18, 2, 61, 56, 14] : List Nat).getD i 0
def pl (i : Nat) : Nat := ([0, 10, 20, 5, 15, 16, 1, 11, 21, 6, 7, 17, 2, 12, 22, 23, 8, 18, 3, 13, 14, 24, 9, 19, 4] : List Nat).getD i 0
def src (i : Nat) : Nat := ([0, 6, 12, 18, 24, 3, 9, 10, 16, 22, 1, 7, 13, 19, 20, 4, 5, 11, 17, 23, 2, 8, 14, 15, 21] : List Nat).getD i 0
theorem src_lt : ∀ i, i < 25 → src i < 25 := by decide
theorem src_pl : ∀ j, j < 25 → ∀ i, i < 25 → (i = pl j ↔ src i = j) := by decide
/-- Each part turned up, at its new place. -/
def rho (f : Nat → Nat) (i : Nat) : Nat := rt (f (src i)) (htn (src i))
structure MV (f h : Nat → Nat) (j : Nat) : Prop where
  hv : ∀ i, i < 25 → h i = if src i < j then rho f i else 0
theorem MV.step {f h : Nat → Nat} {j : Nat} (hj : j < 25) (s : MV f h j) : MV f (upd h (pl j) (rt (f j) (htn j))) (j + 1) where
  hv i hi := by
    rw [upd_at]
    by_cases e : i = pl j
    · have e2 := (src_pl j hj i hi).1 e
      rw [if_pos e, if_pos (by omega)]; unfold rho; rw [e2]
    · have e2 : ¬ src i = j := fun h => e ((src_pl j hj i hi).2 h)
      rw [if_neg e, s.hv i hi]
      by_cases hl : src i < j
      · rw [if_pos hl, if_pos (by omega)]
      · rw [if_neg hl, if_neg (by omega)]
/-- The block g holds the row c, frozen or not. -/
def TabRow (w : World) (g : Nat) (c : Array Value) : Prop := ∃ t fr, w.heap[g]? = some (.cells c t fr)
theorem TabRow.below {w w' : World} {g : Nat} {c : Array Value} (h : TabRow w g c) (hb : Below w.heap.size w w') : TabRow w' g c := by
  obtain ⟨t, fr, h⟩ := h
  exact ⟨t, fr, by rw [hb.block g (Array.getElem?_eq_some_iff.1 h).1]; exact h⟩
theorem TabRow.at {w : World} {g n : Nat} {k : IntKind} {f : Nat → Nat} (h : TabRow w g (ag k n f)) {i : Nat} (hi : i < n) : w.cell? ⟨g, i, none⟩ = some (.int k (f i : Nat)) := by
  obtain ⟨t, fr, h⟩ := h
  rw [cell_of_row w g i _ t fr h, ag_get, if_pos hi]
/-- The program's tables, where they lie. -/
structure Tabs (w : World) (mk : Nat → Nat) : Prop where
  m : TabRow w 4 (ag .u64 24 mk)
  t : TabRow w 5 (ag .i64 25 htn)
  p : TabRow w 6 (ag .i64 25 pl)
theorem Tabs.below {w w' : World} {mk : Nat → Nat} (h : Tabs w mk) (hb : Below w.heap.size w w') : Tabs w' mk := ⟨h.m.below hb, h.t.below hb, h.p.below hb⟩
end Go.Proofs.YthkpgfbjdabflaaGreatDoor
namespace Go.Proofs.YthkpgfbjdabflaaGreatDoor
open Go.RowKit
set_option linter.unusedVariables false
abbrev z5 : Array Value := #[.int .u64 0, .int .u64 0, .int .u64 0, .int .u64 0, .int .u64 0]
structure hCL (f h : Nat → Nat) (j : Nat) : Prop where
  hv : ∀ i, i < 5 → h i = if i < j then col f i else 0
theorem hCL.step {f h : Nat → Nat} {j : Nat} (s : hCL f h j) : hCL f (upd h j (col f j)) (j + 1) where
  hv i hi := by
    rw [upd_at]
    by_cases e : i = j
    · rw [if_pos e, if_pos (by omega), e]
    · rw [if_neg e, s.hv i hi]
      by_cases hl : i < j
      · rw [if_pos hl, if_pos (by omega)]
      · rw [if_neg hl, if_neg (by omega)]
/-- Behind x columns and m parts of the next. -/
structure TI (f h : Nat → Nat) (x m : Nat) : Prop where
  hv : ∀ i, i < 25 → h i = if i % 5 < x ∨ (i % 5 = x ∧ i / 5 < m) then theta f i else f i
theorem TI.step {f h : Nat → Nat} {x m : Nat} (hx : x < 5) (hm : m < 5) (s : TI f h x m) : TI f (upd h (x + 5 * m) (h (x + 5 * m) ^^^ dd f x)) x (m + 1) where
  hv i hi := by
    rw [upd_at]
    by_cases e : i = x + 5 * m
    · rw [if_pos e, if_pos (by omega), s.hv (x + 5 * m) (by omega), if_neg (by omega), e]
      unfold theta
      rw [show (x + 5 * m) % 5 = x by omega]
    · rw [if_neg e, s.hv i hi]
      by_cases hl : i % 5 < x ∨ (i % 5 = x ∧ i / 5 < m)
      · rw [if_pos hl, if_pos (by omega)]
      · rw [if_neg hl, if_neg (by omega)]
theorem TI.next {f h : Nat → Nat} {x : Nat} (s : TI f h x 5) : TI f h (x + 1) 0 where
  hv i hi := by
    rw [s.hv i hi]
    by_cases hl : i % 5 < x ∨ (i % 5 = x ∧ i / 5 < 5)
    · rw [if_pos hl, if_pos (by omega)]
    · rw [if_neg hl, if_neg (by omega)]
theorem TI.lt {f h : Nat → Nat} {x m : Nat} (s : TI f h x m) (hf : P25 f) : P25 h := fun i hi => by
  rw [s.hv i hi]; split
  · exact theta_lt hf i hi
  · exact hf i hi
end Go.Proofs.YthkpgfbjdabflaaGreatDoor
namespace Go.Proofs.YthkpgfbjdabflaaGreatDoor
open Go.RowKit
set_option linter.unusedVariables false
def ki (i : Nat) : Nat := ([1, 32898, 9223372036854808714, 9223372039002292224, 32907, 2147483649, 9223372039002292353, 9223372036854808585, 138, 136, 2147516425, 2147483658, 2147516555, 9223372036854775947, 9223372036854808713, 9223372036854808579, 9223372036854808578, 9223372036854775936, 32778, 9223372039002259466, 9223372039002292353, 9223372036854808704, 2147483649, 9223372039002292232] : List Nat).getD i 0
/-- One round. -/
def rd (f : Nat → Nat) (k : Nat) : Nat → Nat := upd (chi (rho (theta f))) 0 (chi (rho (theta f)) 0 ^^^ ki k)
def prm (f : Nat → Nat) : Nat → Nat → Nat
  | 0 => f
  | k + 1 => rd (prm f k) k
end Go.Proofs.YthkpgfbjdabflaaGreatDoor
