/- Out of Sn. -/
import Derived.Test.YthkpgfbjdabflaaGreatDoorKrDm
import Derived.Test.YthkpgfbjdabflaaGreatDoorKrEq
namespace Go.Proofs.YthkpgfbjdabflaaGreatDoor
set_option linter.unusedVariables false

def HW : Nat := 57896044618658097711785492504343953926634992332820282019728792003956564819968
def ng (a : Nat) : Bool := decide (HW ≤ a)
def negW (a : Nat) : Nat := subW 0 a
def tn (a : Nat) (b : Bool) : Nat := if b = true then negW a else a
def ab (a : Nat) : Nat := tn a (ng a)
def sq (a b : Nat) : Nat := tn (ab a / ab b) (ng a != ng b)
def sr (a b : Nat) : Nat := tn (dr 0 (ab a) (ab b)) (ng a)
def ls (a b : Nat) : Bool := if (ng a != ng b) = true then ng a else decide (a < b)
def sar (a n : Nat) : Nat := if ng a = true then notW (shrW (notW a) n) else shrW a n
def upE (k : Nat) : Nat := 8 * (31 - k)
def exW (k a : Nat) : Nat := if k < 31 then sar (shlW a (upE k)) (upE k) else a
def byW (k a : Nat) : Nat := if k < 32 then byteFn a k else 0
end Go.Proofs.YthkpgfbjdabflaaGreatDoor
