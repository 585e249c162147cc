/- Laid one behind the other: Hk, Hf, Hi, Hj. -/
import Derived.Test.YthkpgfbjdabflaaGreatDoorKrHt
import Derived.ChangeKeysEq
import Derived.Lib.BufferWrite
import Derived.RangeFuncNested
import Derived.RangeFuncBound
import Derived.RangeFuncCalls
import Derived.RangeFuncLeaves
import Derived.Shelf.Abstract
import Derived.Shelf.RegionOpen
import Derived.WalkKit
import Derived.OwnWalkIn
import Derived.TacticsInMore
import Derived.LoopNIn
import Derived.LoopIn
import Derived.Sort.CutIn
namespace Go.Proofs.YthkpgfbjdabflaaGreatDoor
open Go.RowKit
set_option linter.unusedVariables false
abbrev B136 (g : Nat → Nat) : Value := .agg (ag .u8 136 g)
/-- The first j bytes of a block taken into the parts. -/
def htk (f g : Nat → Nat) : Nat → Nat → Nat
  | 0 => f
  | j + 1 => upd (htk f g j) (j / 8) (htk f g j (j / 8) ^^^ g j * 2 ^ (j % 8 * 8))
/-- The bytes of the first four parts. -/
def tb (f : Nat → Nat) (i : Nat) : Nat := f (i / 8) / 2 ^ (i % 8 * 8) % 256
def told (f : Nat → Nat) : ByteArray := strOfNums ((List.range 32).map fun i => ((tb f i : Nat) : Int))
structure TD (f h : Nat → Nat) (j : Nat) : Prop where
  hv : ∀ i, i < 32 → h i = if i < j then tb f i else 0
theorem TD.step {f h : Nat → Nat} {j : Nat} (s : TD f h j) : TD f (upd h j (tb f j)) (j + 1) where
  hv i hi := by
    rw [upd_at]
    by_cases e : i = j
    · rw [if_pos e, if_pos (by omega), e]
    · rw [if_neg e, s.hv i hi]
      by_cases hl : i < j
      · rw [if_pos hl, if_pos (by omega)]
      · rw [if_neg hl, if_neg (by omega)]
end Go.Proofs.YthkpgfbjdabflaaGreatDoor
namespace Go.Proofs.YthkpgfbjdabflaaGreatDoor
open Go.RowKit Go.Lib
set_option linter.unusedVariables false
/-- The byte of a text at a place; nought behind its end. -/
def bt (s : ByteArray) (i : Nat) : Nat := (s.data.toList.getD i 0).toNat
theorem bt_lt (s : ByteArray) (i : Nat) : bt s i < 256 := UInt8.toNat_lt _
/-- A text laid over the head of a row. -/
def ov (s : ByteArray) (q : Nat → Nat) (i : Nat) : Nat := if i < s.size then bt s i else q i
/-- The last block of a text that is shorter than one. -/
def fl (s : ByteArray) (i : Nat) : Nat := if i = 135 then (if 135 = s.size then 129 else 128) else if i = s.size then 1 else if i < s.size then bt s i else 0
end Go.Proofs.YthkpgfbjdabflaaGreatDoor
namespace Go.Proofs.YthkpgfbjdabflaaGreatDoor
open Go.RowKit Go.Shelf
set_option linter.unusedVariables false
attribute [local go_sem] Oper.semAt_some

/-- What is left of a text behind m bytes. -/
def hdr (s : ByteArray) (m : Nat) : ByteArray := s.extract m s.size
abbrev BA := { g : Nat → Nat // ∀ i, g i < 256 }
theorem fl_lt (s : ByteArray) (i : Nat) : fl s i < 256 := by
  unfold fl; split
  · split <;> decide
  · split
    · decide
    · split
      · exact bt_lt _ _
      · decide
def blk (s : ByteArray) (k : Nat) : BA := ⟨fun i => bt s (136 * k + i), fun i => bt_lt _ _⟩
def lst (s : ByteArray) : BA := ⟨fl s, fl_lt s⟩
/-- A text's blocks. -/
def full (s : ByteArray) (k : Nat) : List BA := (List.range k).map (blk s)
def blks (s : ByteArray) : List BA := full s (s.size / 136) ++ [lst (hdr s (136 * (s.size / 136)))]
end Go.Proofs.YthkpgfbjdabflaaGreatDoor
namespace Go.Proofs.YthkpgfbjdabflaaGreatDoor
open Go.RowKit Go.Shelf
set_option linter.unusedVariables false
attribute [local go_sem] Oper.semAt_some

/-- The parts behind some blocks. -/
def spg (l : List BA) : Nat → Nat := l.foldl (fun f x => prm (htk f x.1 136) 24) (fun _ => 0)
theorem Calls.v2 {fn : Nat} {f g h : Nat → Nat} {w : World} (hc : Calls Tryz.prog fn #[A25 f, B136 g] w fun e w' => e = .returned (A25 h) ∧ Below w.heap.size w w') :
    Calls Tryz.prog fn #[A25 f, B136 g] w fun e w' => (∃ c', e = .returned (.agg c') ∧ IsRow c' .u64 25 h) ∧ Below w.heap.size w w' :=
  hc.mono fun e w' ⟨he, hb⟩ => ⟨⟨_, he, ⟨rfl⟩⟩, hb⟩
theorem HasRow.grown {X Y : World} {g : Nat} {c : Array Value} {row : Option Nat} (h : HasRow X g c) (hg : X.grownBy Y row) (hne : some g ≠ row) : HasRow Y g c := by
  have hlt := h.lt
  obtain ⟨t, h⟩ := h
  exact ⟨t, (hg.block g hlt hne).trans h⟩
end Go.Proofs.YthkpgfbjdabflaaGreatDoor
