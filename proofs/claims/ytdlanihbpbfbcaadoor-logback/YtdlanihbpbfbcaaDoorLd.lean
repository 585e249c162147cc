/- What the condition on the program's tables gives: where they lie. -/
import Derived.Test.YtdlanihbpbfbcaaDoorHq
import Derived.Test.YtdlanihbpbfbcaaDoorRows
import Derived.WalkKit
import Derived.ProofKit
import Derived.OpenShut
import Derived.LaidMore
import Derived.Lay
import Derived.Stop.Joined
namespace Go.Proofs.YtdlanihbpbfbcaaDoor
open Go.ChangeShapes Go.WideShapes Go.ChangeAt Go.RowKit
set_option linter.unusedVariables false
theorem own : ownKnob Tryd.prog.godebug = none := by kernel_rfl
abbrev laid3 : List (String × DataW Unit) := [("truce/hash.turns", Rows.laid_truce_hash_turns), ("truce/hash.places", Rows.laid_truce_hash_places), ("truce/hash.marks", Rows.laid_truce_hash_marks)]
theorem gMarks : Tryd.prog.globalNamed "truce/hash.marks" = some 0 := by kernel_rfl
theorem gTurns : Tryd.prog.globalNamed "truce/hash.turns" = some 1 := by kernel_rfl
theorem gPlaces : Tryd.prog.globalNamed "truce/hash.places" = some 2 := by kernel_rfl
theorem tMarks : (Tryd.prog.globals[0]?).map (·.type) = some 54 := by kernel_rfl
theorem tTurns : (Tryd.prog.globals[1]?).map (·.type) = some 56 := by kernel_rfl
theorem tPlaces : (Tryd.prog.globals[2]?).map (·.type) = some 56 := by kernel_rfl
theorem row_of_trod {H : Type} {enc : TypeId × Value → H} {P : Program} {w : World} {base : Nat} {spare : Nat → Bool} {held : Bool} {fuel : Nat} {t e : TypeId} {cs : List Value} {ds : List (DataW H)} {p : List MemPlace} {n : Nat} {k : IntKind}
    (hu : P.underlying t = some (.array n e)) (he : P.underlying e = some (.int k)) (hc : P.cellsOf e = 1) (hct : P.cellsOf t = n)
    (h : DataW.trod enc P w base spare held fuel t cs = some (.agg ds, p)) (f : Nat → Nat) (hds : ds = (List.range n).map fun i => DataW.lit (.int k ((f i : Nat) : Int))) : cs = (ag k n f).toList := by
  obtain ⟨xs, m, _, hx, hlen, hxn, hel⟩ := DataW.trod_array hu h
  simp only [Prod.mk.injEq, DataW.agg.injEq] at hx
  rw [hct] at hlen
  apply List.ext_getElem?
  intro i
  rw [show (ag k n f).toList[i]? = (ag k n f)[i]? from Array.getElem?_toList, ag_get]
  by_cases hi : i < n
  · rw [if_pos hi]
    have h1 := hel i hi
    rw [hc, Nat.mul_one, List.getElem?_eq_getElem (by omega)] at h1
    obtain ⟨q, e1, e2, _⟩ := DataW.trod_int he h1
    have h2 : ds[i]? = some (.lit (.int k ((f i : Nat) : Int))) := by rw [hds, List.getElem?_map, List.getElem?_range hi]; rfl
    rw [hx.1, List.getElem?_map, List.getElem?_eq_getElem (by omega)] at h2
    simp only [Option.map_some, e2, Option.some.injEq, DataW.lit.injEq, Lit.int.injEq] at h2
    have h3 : (cs.drop i)[0]? = some (.int k q) := by
      have : (List.take 1 (cs.drop i))[0]? = some (.int k q) := by rw [e1]; rfl
      simpa [List.getElem?_take] using this
    rw [List.getElem?_drop, Nat.add_zero] at h3
    rw [h3, h2.2]
  · rw [if_neg hi, List.getElem?_eq_none (by omega)]
theorem var_block {P : Program} {w : World} {name : String} {g : Nat} {cs : Array Value} (hg : P.globalNamed name = some g) (hv : World.var? P w name = some cs) : ∃ t fr, w.heap[g]? = some (.cells cs t fr) := by
  unfold World.var? at hv
  rw [hg, Option.bind_some] at hv
  split at hv
  · rename_i c t fr e
    obtain rfl := Option.some.inj hv
    exact ⟨_, _, e⟩
  · cases hv
theorem tabs_of_laid {W : World} (h : laidMetH Tryd.prog laid3 W) : Tabs W ki := by
  rw [MakeChecks.laidMetH_plain _ _ _ (by kernel_rfl)] at h
  obtain ⟨ps, ⟨g0, t0, cs0, f0, p0, q0, hg0, ht0, hv0, hd0, ⟨g1, t1, cs1, f1, p1, q1, hg1, ht1, hv1, hd1, ⟨g2, t2, cs2, f2, p2, q2, hg2, ht2, hv2, hd2, _, _⟩, _⟩, _⟩, _, _⟩ := h
  obtain rfl := Option.some.inj (gTurns.symm.trans hg0)
  obtain rfl := Option.some.inj (gPlaces.symm.trans hg1)
  obtain rfl := Option.some.inj (gMarks.symm.trans hg2)
  obtain rfl := Option.some.inj (tTurns.symm.trans ht0)
  obtain rfl := Option.some.inj (tPlaces.symm.trans ht1)
  obtain rfl := Option.some.inj (tMarks.symm.trans ht2)
  have c3 : Tryd.prog.cellsOf 3 = 1 := by kernel_rfl
  have c22 : Tryd.prog.cellsOf 29 = 1 := by kernel_rfl
  have c33 : Tryd.prog.cellsOf 56 = 25 := by kernel_rfl
  have c32 : Tryd.prog.cellsOf 54 = 24 := by kernel_rfl
  have e0 := row_of_trod Tryd.underlying56 Tryd.underlying3 c3 c33 hd0 tn (by kernel_rfl)
  have e1 := row_of_trod Tryd.underlying56 Tryd.underlying3 c3 c33 hd1 pl (by kernel_rfl)
  have e2 := row_of_trod Tryd.underlying54 Tryd.underlying29 c22 c32 hd2 ki (by kernel_rfl)
  obtain ⟨t0, fr0, b0⟩ := var_block hg0 hv0
  obtain ⟨t1, fr1, b1⟩ := var_block hg1 hv1
  obtain ⟨t2, fr2, b2⟩ := var_block hg2 hv2
  have a0 := Array.toList_inj.1 e0
  have a1 := Array.toList_inj.1 e1
  have a2 := Array.toList_inj.1 e2
  exact ⟨⟨t2, fr2, by rw [b2, a2]⟩, ⟨t0, fr0, by rw [b0, a0]⟩, ⟨t1, fr1, by rw [b1, a1]⟩⟩
theorem door_met (os : Os) (args : Array Value) : laidMetH Tryd.prog laid3 ((World.laidAll Tryd.prog os laid3).forCall (fun _ _ => 0) ⟨#[], args, []⟩).memory := by
  rw [MakeChecks.laidMetH_plain _ _ _ (by kernel_rfl)]
  exact laidMet_laidAll _ (by kernel_rfl) (by kernel_rfl)
end Go.Proofs.YtdlanihbpbfbcaaDoor
