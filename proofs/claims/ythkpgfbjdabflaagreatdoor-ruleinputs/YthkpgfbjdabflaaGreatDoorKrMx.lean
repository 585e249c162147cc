/- Out of Mx. -/
import Derived.Test.YthkpgfbjdabflaaGreatDoorKrKa
import Derived.Test.YthkpgfbjdabflaaGreatDoorKrNum
import Derived.Deep.Quiet
import Derived.Lib.QuietBelow
import Derived.BigQuiet
import Derived.Deep.Light
import Derived.Test.YthkpgfbjdabflaaGreatDoorKrNv
import Derived.Test.YthkpgfbjdabflaaGreatDoorKrDm
import Derived.Test.YthkpgfbjdabflaaGreatDoorKrEq
import Derived.Test.YthkpgfbjdabflaaGreatDoorKrQa
import Derived.Test.YthkpgfbjdabflaaGreatDoorKrLm
import Derived.Test.YthkpgfbjdabflaaGreatDoorKrLa1
import Derived.Test.YthkpgfbjdabflaaGreatDoorKrAu
import Derived.Test.YthkpgfbjdabflaaGreatDoorKrLa
import Derived.WalkMore
import Derived.Lib.ItoaNum
namespace Go.Proofs.YthkpgfbjdabflaaGreatDoor
open Go.RowKit Go.Sort
set_option linter.unusedVariables false
attribute [local go_sem] run_eq4 run_eqU_same

end Go.Proofs.YthkpgfbjdabflaaGreatDoor

namespace Go.Proofs.YthkpgfbjdabflaaGreatDoor
open Go.RowKit Go.Sort
set_option linter.unusedVariables false

end Go.Proofs.YthkpgfbjdabflaaGreatDoor

namespace Go.Proofs.YthkpgfbjdabflaaGreatDoor
open Go.RowKit
set_option linter.unusedVariables false

end Go.Proofs.YthkpgfbjdabflaaGreatDoor

namespace Go.Proofs.YthkpgfbjdabflaaGreatDoor
open Go.RowKit Go.Sort
set_option linter.unusedVariables false
attribute [local go_sem] run_eq4 run_eqU_same

structure PW (w w' : World) (b1 a n x : Nat) : Prop where
  ra : HasRow w' (w.heap.size) #[B (l0 a), B (l1 a), B (l2 a), B (l3 a)]
  rn : HasRow w' (w.heap.size + 1) #[B (l0 n), B (l1 n), B (l2 n), B (l3 n)]
  rr : HasRow w' (w.heap.size + 1 + 1) #[.int .u64 0, .int .u64 0, .int .u64 0, .int .u64 0]
  oo : HasRow w' b1 #[B (l0 x), B (l1 x), B (l2 x), B (l3 x)]
  bw : Below w.heap.size w w'
  gg : w.heap.size + 1 + 1 < b1
theorem PW.call {w w' w'' : World} {b1 a n x : Nat} (h : PW w w' b1 a n x) (hb : Below w'.heap.size w' w'') : PW w w'' b1 a n x :=
  ⟨h.ra.below hb, h.rn.below hb, h.rr.below hb, h.oo.below hb, h.bw.trans (hb.mono h.bw.size), h.gg⟩
theorem PW.put {w w' : World} {b1 a n x : Nat} (h : PW w w' b1 a n x) (y : Nat) : PW w (w'.setRow b1 #[B (l0 y), B (l1 y), B (l2 y), B (l3 y)]) b1 a n y := by
  have hg := h.gg
  exact ⟨h.ra.set_other _ (by omega), h.rn.set_other _ (by omega), h.rr.set_other _ (by omega), h.oo.set_same _, below_setRow h.bw (by omega) _, hg⟩
structure PV (w w' : World) (b1 a n m x : Nat) : Prop where
  ra : HasRow w' (w.heap.size) #[B (l0 a), B (l1 a), B (l2 a), B (l3 a)]
  rn : HasRow w' (w.heap.size + 1) #[B (l0 n), B (l1 n), B (l2 n), B (l3 n)]
  rm : HasRow w' (w.heap.size + 1 + 1) #[B (l0 m), B (l1 m), B (l2 m), B (l3 m)]
  rr : HasRow w' (w.heap.size + 1 + 1 + 1) #[.int .u64 0, .int .u64 0, .int .u64 0, .int .u64 0]
  oo : HasRow w' b1 #[B (l0 x), B (l1 x), B (l2 x), B (l3 x)]
  bw : Below w.heap.size w w'
  gg : w.heap.size + 1 + 1 + 1 < b1
theorem PV.call {w w' w'' : World} {b1 a n m x : Nat} (h : PV w w' b1 a n m x) (hb : Below w'.heap.size w' w'') : PV w w'' b1 a n m x :=
  ⟨h.ra.below hb, h.rn.below hb, h.rm.below hb, h.rr.below hb, h.oo.below hb, h.bw.trans (hb.mono h.bw.size), h.gg⟩
theorem PV.put {w w' : World} {b1 a n m x : Nat} (h : PV w w' b1 a n m x) (y : Nat) : PV w (w'.setRow b1 #[B (l0 y), B (l1 y), B (l2 y), B (l3 y)]) b1 a n m y := by
  have hg := h.gg
  exact ⟨h.ra.set_other _ (by omega), h.rn.set_other _ (by omega), h.rm.set_other _ (by omega), h.rr.set_other _ (by omega), h.oo.set_same _, below_setRow h.bw (by omega) _, hg⟩
end Go.Proofs.YthkpgfbjdabflaaGreatDoor

namespace Go.Proofs.YthkpgfbjdabflaaGreatDoor
open Go.RowKit Go.Sort
set_option linter.unusedVariables false
attribute [local go_sem] run_eq4 run_eqU_same

end Go.Proofs.YthkpgfbjdabflaaGreatDoor

namespace Go.Proofs.YthkpgfbjdabflaaGreatDoor
open Go.RowKit Go.Sort
set_option linter.unusedVariables false
theorem Frm.olds {ops : Array Oper} {vs : Nat → Value} {a a' : Act} {listed : Array Bool} (h : Frm ops vs a listed a') {t i : Nat} (hw : wr ops t = some i) (hn : ¬ listed.getD i false = true) : a'.eval (.tmp t) = a.eval (.tmp t) := by
  show a'.tmps.getD t undef = a.tmps.getD t undef
  rw [Array.getD_eq_getD_getElem?, Array.getD_eq_getD_getElem?]
  by_cases ht : t < a.tmps.size
  · rw [h.2.2 t ht, hw]
    simp only [hn, if_false, Bool.false_eq_true]
  · rw [Array.getElem?_eq_none (by have := h.2.1; omega), Array.getElem?_eq_none (by omega)]
end Go.Proofs.YthkpgfbjdabflaaGreatDoor

namespace Go.Proofs.YthkpgfbjdabflaaGreatDoor
open Go.RowKit Go.Sort
set_option linter.unusedVariables false
attribute [local go_sem] run_eq4 run_eqU_same
structure EU (w w' : World) (g7 g8 dv lf ts nx : Nat) : Prop where
  rd : HasRow w' (w.heap.size + 1 + 1) #[B (l0 dv), B (l1 dv), B (l2 dv), B (l3 dv)]
  rt : HasRow w' (w.heap.size + 1 + 1 + 1) #[B (l0 ts), B (l1 ts), B (l2 ts), B (l3 ts)]
  rl : HasRow w' g7 #[B (l0 lf), B (l1 lf), B (l2 lf), B (l3 lf)]
  rx : HasRow w' g8 #[B (l0 nx), B (l1 nx), B (l2 nx), B (l3 nx)]
  bw : Below w.heap.size w w'
  h7 : w.heap.size + 1 + 1 + 1 < g7
  h8 : w.heap.size + 1 + 1 + 1 < g8
  h78 : g7 ≠ g8
theorem EU.call {w w' w'' : World} {g7 g8 dv lf ts nx : Nat} (h : EU w w' g7 g8 dv lf ts nx) (hb : Below w'.heap.size w' w'') : EU w w'' g7 g8 dv lf ts nx :=
  ⟨h.rd.below hb, h.rt.below hb, h.rl.below hb, h.rx.below hb, h.bw.trans (hb.mono h.bw.size), h.h7, h.h8, h.h78⟩
theorem EU.alloc {w w' : World} {g7 g8 dv lf ts nx : Nat} (h : EU w w' g7 g8 dv lf ts nx) (o : Obj) : EU w (w'.alloc o) g7 g8 dv lf ts nx :=
  ⟨h.rd.old, h.rt.old, h.rl.old, h.rx.old, bel_alloc h.bw _, h.h7, h.h8, h.h78⟩
end Go.Proofs.YthkpgfbjdabflaaGreatDoor

namespace Go.Proofs.YthkpgfbjdabflaaGreatDoor
open Go.RowKit Go.Sort
set_option linter.unusedVariables false
attribute [local go_sem] run_eq4 run_eqU_same

end Go.Proofs.YthkpgfbjdabflaaGreatDoor

namespace Go.Proofs.YthkpgfbjdabflaaGreatDoor
open Go.RowKit Go.Sort
set_option linter.unusedVariables false
attribute [local go_sem] run_eq4 run_eqU_same

end Go.Proofs.YthkpgfbjdabflaaGreatDoor
