/- What the condition on the program's tables gives: where they lie. -/
import Derived.Test.YtoceebhnhccfdaaDoorKd
import Derived.Test.YtoceebhnhccfdaaDoorRows
import Derived.WalkKit
import Derived.ProofKit
import Derived.OpenShut
import Derived.LaidMore
import Derived.Lay
import Derived.Stop.Joined
import Derived.Lib.SmallJoins
namespace Go.Proofs.YtoceebhnhccfdaaDoor
open Go.ChangeShapes Go.WideShapes Go.ChangeAt Go.RowKit
set_option linter.unusedVariables false
set_option maxRecDepth 100000
theorem own : ownKnob Tryd.prog.godebug = none := by kernel_rfl
theorem wf_u8 {a : Int} (h : (Lit.int .u8 a).wf = true) : ∃ k : Nat, a = k ∧ k < 256 := by
  have hx : 0 ≤ a ∧ a ≤ 255 := by simpa [Lit.wf, IntKind.min, IntKind.max, IntKind.signed, IntKind.bits] using h
  exact ⟨a.toNat, by omega, by omega⟩
abbrev laid7 : List (String × DataW Unit) := [("math/bits.deBruijn32tab", Rows.laid_math_bits_deBruijn32tab), ("math/bits.deBruijn64tab", Rows.laid_math_bits_deBruijn64tab), ("internal/strconv.uint64pow10", Rows.laid_internal_strconv_uint64pow10), ("truce/codes.stopTable", Rows.laid_truce_codes_stopTable), ("truce/codes.lessTable", Rows.laid_truce_codes_lessTable), ("truce/codes.inputTable", Rows.laid_truce_codes_inputTable), ("truce/codes.popTable", Rows.laid_truce_codes_popTable)]
theorem gStop : Tryd.prog.globalNamed "truce/codes.stopTable" = some 0 := by kernel_rfl
theorem gLess : Tryd.prog.globalNamed "truce/codes.lessTable" = some 1 := by kernel_rfl
theorem gInput : Tryd.prog.globalNamed "truce/codes.inputTable" = some 2 := by kernel_rfl
theorem gPop : Tryd.prog.globalNamed "truce/codes.popTable" = some 3 := by kernel_rfl
theorem tStop : (Tryd.prog.globals[0]?).map (·.type) = some 57 := by kernel_rfl
theorem tLess : (Tryd.prog.globals[1]?).map (·.type) = some 58 := by kernel_rfl
theorem tInput : (Tryd.prog.globals[2]?).map (·.type) = some 59 := by kernel_rfl
theorem tPop : (Tryd.prog.globals[3]?).map (·.type) = some 60 := by kernel_rfl
def rwD {H : Type} (r : OpR) : DataW H := .agg [.lit (.string r.1), .lit (.int .i64 (r.2.1 : Nat)), .lit (.int .i64 (r.2.2.1 : Nat)), .lit (.int .i64 (r.2.2.2 : Nat))]
theorem u43 : ∃ f0 f1 f2 f3 : Field, Tryd.prog.underlying 43 = some (.struct #[f0, f1, f2, f3]) ∧ (f0.type, f0.offset, f1.type, f1.offset, f2.type, f2.offset, f3.type, f3.offset) = (9, 0, 3, 1, 3, 2, 3, 3) := by
  have h : (Tryd.prog.underlying 43).map (fun d => match d with | .struct fs => fs.toList.map fun f => (f.type, f.offset) | _ => []) = some [(9, 0), (3, 1), (3, 2), (3, 3)] := by kernel_rfl
  cases hq : Tryd.prog.underlying 43 with
  | none => rw [hq] at h; cases h
  | some d =>
    rw [hq] at h
    cases d with
    | struct fs =>
      simp only [Option.map_some, Option.some.injEq] at h
      obtain ⟨l⟩ := fs
      match l, h with
      | [f0, f1, f2, f3], h =>
        simp only [List.map_cons, List.map_nil, List.cons.injEq, Prod.mk.injEq, and_true] at h
        exact ⟨f0, f1, f2, f3, rfl, by simp [h]⟩
    | _ => simp at h
theorem cells_of_trod {H : Type} {enc : TypeId × Value → H} {w : World} {base : Nat} {spare : Nat → Bool} {held : Bool} {fuel : Nat} {cs : List Value} {p : List MemPlace} {r : OpR} (h : DataW.trod enc Tryd.prog w base spare held fuel 43 cs = some (rwD r, p)) : cs = rwV r := by
  obtain ⟨f0, f1, f2, f3, hu, hf⟩ := u43
  simp only [Prod.mk.injEq] at hf
  obtain ⟨y0, y1, y2, y3, n, hx, hl, h0, h1, h2, h3⟩ := Go.Joins.trod_struct4 hu h
  have c43 : Tryd.prog.cellsOf 43 = 4 := by kernel_rfl
  have c9 : Tryd.prog.cellsOf 9 = 1 := by kernel_rfl
  have c3 : Tryd.prog.cellsOf 3 = 1 := by kernel_rfl
  rw [c43] at hl
  obtain ⟨a0, a1, a2, a3, rfl⟩ : ∃ a0 a1 a2 a3, cs = [a0, a1, a2, a3] := by
    match cs, hl with
    | [a0, a1, a2, a3], _ => exact ⟨a0, a1, a2, a3, rfl⟩
  rw [hf.1, hf.2.1, c9] at h0
  rw [hf.2.2.1, hf.2.2.2.1, c3] at h1
  rw [hf.2.2.2.2.1, hf.2.2.2.2.2.1, c3] at h2
  rw [hf.2.2.2.2.2.2.1, hf.2.2.2.2.2.2.2, c3] at h3
  obtain ⟨s0, e0, x0, _⟩ := DataW.trod_string Tryd.underlying9 h0
  obtain ⟨n1, e1, x1, _⟩ := DataW.trod_int Tryd.underlying3 h1
  obtain ⟨n2, e2, x2, _⟩ := DataW.trod_int Tryd.underlying3 h2
  obtain ⟨n3, e3, x3, _⟩ := DataW.trod_int Tryd.underlying3 h3
  subst x0 x1 x2 x3
  simp only [rwD, Prod.mk.injEq, DataW.agg.injEq, List.cons.injEq, DataW.lit.injEq, Lit.string.injEq, Lit.int.injEq, true_and, and_true] at hx
  obtain ⟨⟨q0, q1, q2, q3⟩, _⟩ := hx
  simp at e0 e1 e2 e3
  subst e0 e1 e2 e3
  unfold rwV str Z
  rw [q0, q1, q2, q3]
theorem tab_of_trod {H : Type} {enc : TypeId × Value → H} {w : World} {base : Nat} {spare : Nat → Bool} {held : Bool} {fuel : Nat} {t : TypeId} {cs : List Value} {ds : List (DataW H)} {p : List MemPlace} {n : Nat} {l : List OpR}
    (hu : Tryd.prog.underlying t = some (.array n 43)) (hct : Tryd.prog.cellsOf t = n * 4) (h : DataW.trod enc Tryd.prog w base spare held fuel t cs = some (.agg ds, p)) (hl : l.length = n) (hds : ds = l.map rwD) : cs = l.flatMap rwV := by
  obtain ⟨xs, m, _, hx, hlen, hxn, hel⟩ := DataW.trod_array hu h
  simp only [Prod.mk.injEq, DataW.agg.injEq] at hx
  have c43 : Tryd.prog.cellsOf 43 = 4 := by kernel_rfl
  rw [hct] at hlen
  rw [c43] at hel
  have key : ∀ i, i < n → (cs.drop (i * 4)).take 4 = rwV (l.getD i opD) := fun i hi => by
    have h1 := hel i hi
    rw [List.getElem?_eq_getElem (by omega)] at h1
    have h2 : (xs[i]'(by omega)).1 = rwD (l.getD i opD) := by
      have h3 : ds[i]? = some (rwD (l.getD i opD)) := by rw [hds, List.getElem?_map, List.getD_eq_getElem?_getD, List.getElem?_eq_getElem (by omega)]; rfl
      rw [hx.1, List.getElem?_map, List.getElem?_eq_getElem (by omega)] at h3
      simpa using h3
    generalize xs[i]'(by omega) = y at h1 h2
    obtain ⟨d, q⟩ := y
    simp only [] at h2
    subst h2
    exact cells_of_trod h1
  apply List.ext_getElem?
  intro k
  rcases Nat.lt_or_ge k (n * 4) with hk | hk
  · have h1 := key (k / 4) (by omega)
    have h2 := tab_get l (k / 4) (k % 4) (by omega) (Nat.mod_lt _ (by decide))
    rw [show 4 * (k / 4) + k % 4 = k by omega] at h2
    rw [h2, ← h1, List.getElem?_take, if_pos (Nat.mod_lt _ (by decide)), List.getElem?_drop, show k / 4 * 4 + k % 4 = k by omega]
  · rw [List.getElem?_eq_none (by omega), List.getElem?_eq_none (by rw [tab_len]; omega)]
theorem var_block {P : Program} {w : World} {name : String} {g : Nat} {cs : Array Value} (hg : P.globalNamed name = some g) (hv : World.var? P w name = some cs) : ∃ t fr, w.heap[g]? = some (.cells cs t fr) := by
  unfold World.var? at hv
  rw [hg, Option.bind_some] at hv
  split at hv
  · rename_i c t fr e
    obtain rfl := Option.some.inj hv
    exact ⟨_, _, e⟩
  · cases hv
theorem tabs_of_laid {W : World} (h : laidMetH Tryd.prog laid7 W) : Tb W := by
  rw [MakeChecks.laidMetH_plain _ _ _ (by kernel_rfl)] at h
  obtain ⟨ps, ⟨gx, tx, csx, fx, px, qx, hgx, htx, hvx, hdx, ⟨gy, ty, csy, fy, py, qy, hgy, hty, hvy, hdy, ⟨gz, tz, csz, fz, pz, qz, hgz, htz, hvz, hdz, ⟨g0, t0, cs0, f0, p0, q0, hg0, ht0, hv0, hd0, ⟨g1, t1, cs1, f1, p1, q1, hg1, ht1, hv1, hd1, ⟨g2, t2, cs2, f2, p2, q2, hg2, ht2, hv2, hd2, ⟨g3, t3, cs3, f3, p3, q3, hg3, ht3, hv3, hd3, _, _⟩, _⟩, _⟩, _⟩, _⟩, _⟩, _⟩, _, _⟩ := h
  obtain rfl := Option.some.inj (gStop.symm.trans hg0)
  obtain rfl := Option.some.inj (gLess.symm.trans hg1)
  obtain rfl := Option.some.inj (gInput.symm.trans hg2)
  obtain rfl := Option.some.inj (gPop.symm.trans hg3)
  obtain rfl := Option.some.inj (tStop.symm.trans ht0)
  obtain rfl := Option.some.inj (tLess.symm.trans ht1)
  obtain rfl := Option.some.inj (tInput.symm.trans ht2)
  obtain rfl := Option.some.inj (tPop.symm.trans ht3)
  have e0 := tab_of_trod (l := stopL) Tryd.underlying57 (by kernel_rfl) hd0 rfl (by kernel_rfl)
  have e1 := tab_of_trod (l := lessL) Tryd.underlying58 (by kernel_rfl) hd1 rfl (by kernel_rfl)
  have e2 := tab_of_trod (l := inputL) Tryd.underlying59 (by kernel_rfl) hd2 rfl (by kernel_rfl)
  have e3 := tab_of_trod (l := popL) Tryd.underlying60 (by kernel_rfl) hd3 rfl (by kernel_rfl)
  obtain ⟨t0, fr0, b0⟩ := var_block hg0 hv0
  obtain ⟨t1, fr1, b1⟩ := var_block hg1 hv1
  obtain ⟨t2, fr2, b2⟩ := var_block hg2 hv2
  obtain ⟨t3, fr3, b3⟩ := var_block hg3 hv3
  have a0 : cs0 = tabC stopL := Array.toList_inj.1 e0
  have a1 : cs1 = tabC lessL := Array.toList_inj.1 e1
  have a2 : cs2 = tabC inputL := Array.toList_inj.1 e2
  have a3 : cs3 = tabC popL := Array.toList_inj.1 e3
  exact ⟨⟨t0, fr0, by rw [b0, a0]⟩, ⟨t1, fr1, by rw [b1, a1]⟩, ⟨t2, fr2, by rw [b2, a2]⟩, ⟨t3, fr3, by rw [b3, a3]⟩⟩
theorem door_met (os : Os) (args : Array Value) : laidMetH Tryd.prog laid7 ((World.laidAll Tryd.prog os laid7).forCall (fun _ _ => 0) ⟨#[], args, []⟩).memory := by
  rw [MakeChecks.laidMetH_plain _ _ _ (by kernel_rfl)]
  exact laidMet_laidAll _ (by kernel_rfl) (by kernel_rfl)
end Go.Proofs.YtoceebhnhccfdaaDoor
