/- Out of Ht. -/
import Derived.Test.YtceedgdbhlpjlaaGreatDoorKfHn
namespace Go.Proofs.YtceedgdbhlpjlaaGreatDoor
open Go.RowKit
set_option linter.unusedVariables false
def lf : Nat → Nat
  | 0 => 1
  | n + 1 => if 255 < lf n * 2 then (lf n * 2) ^^^ 369 else lf n * 2
def mw (i : Nat) : Nat → Nat
  | 0 => 0
  | j + 1 => if lf (7 * i + j) % 2 = 1 then mw i j ||| 2 ^ (2 ^ j - 1) else mw i j
/-- The row behind i rounds and j steps of the next. -/
structure KM (h : Nat → Nat) (i j l : Nat) : Prop where
  hv : ∀ q, q < 24 → h q = if q < i then mw q 7 else if q = i then mw i j else 0
  hl : l = lf (7 * i + j)
theorem KM.on {h : Nat → Nat} {i j l l' : Nat} (s : KM h i j l) (hi : i < 24) (h1 : l % 2 = 1) (h2 : l' = lf (7 * i + (j + 1))) : KM (upd h i (h i ||| 2 ^ (2 ^ j - 1))) i (j + 1) l' where
  hv q hq := by
    rw [upd_at]
    by_cases e : q = i
    · rw [if_pos e, if_neg (by omega), if_pos e, s.hv i hi, if_neg (by omega), if_pos rfl, mw, ← s.hl, if_pos h1]
    · rw [if_neg e, s.hv q hq, if_neg e, if_neg e]
  hl := h2
theorem KM.off {h : Nat → Nat} {i j l l' : Nat} (s : KM h i j l) (h1 : ¬ l % 2 = 1) (h2 : l' = lf (7 * i + (j + 1))) : KM h i (j + 1) l' where
  hv q hq := by
    have e : mw i (j + 1) = mw i j := by rw [mw, ← s.hl, if_neg h1]
    rw [s.hv q hq, e]
  hl := h2
theorem KM.next {h : Nat → Nat} {i l : Nat} (s : KM h i 7 l) : KM h (i + 1) 0 l where
  hv q hq := by
    rw [s.hv q hq]
    by_cases e : q < i
    · rw [if_pos e, if_pos (by omega)]
    · by_cases e2 : q = i
      · rw [if_neg e, if_pos e2, if_pos (by omega), e2]
      · rw [if_neg e, if_neg e2, if_neg (by omega)]
        by_cases e3 : q = i + 1
        · rw [if_pos e3]; rfl
        · rw [if_neg e3]
  hl := by rw [s.hl, show 7 * i + 7 = 7 * (i + 1) + 0 by omega]
end Go.Proofs.YtceedgdbhlpjlaaGreatDoor
