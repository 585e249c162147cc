/- Laid one behind the other: Tz, Ld. -/
import Derived.Test.YtomdiafkoeefpaaGreatDoorKwTy
import Derived.Test.YtomdiafkoeefpaaGreatDoorKwOp
import Derived.Lib.SmallJoins
import Derived.Test.YtomdiafkoeefpaaGreatDoorKwHn
import Derived.Test.YtomdiafkoeefpaaGreatDoorRows
import Derived.WalkKit
import Derived.ProofKit
import Derived.OpenShut
import Derived.LaidMore
import Derived.Lay
import Derived.Stop.Joined
namespace Go.Proofs.YtomdiafkoeefpaaGreatDoor
open Go.RowKit Go.Sort Go.ChangeShapes Go.WideShapes Go.ChangeAt
set_option linter.unusedVariables false
set_option maxRecDepth 100000
theorem pick_list {α : Type} {P : Nat → α → Prop} : ∀ n : Nat, (∀ i, i < n → ∃ x, P i x) → ∃ l : List α, l.length = n ∧ ∀ i x, l[i]? = some x → P i x
  | 0, _ => ⟨[], rfl, fun i x h => by simp at h⟩
  | n + 1, h => by
    obtain ⟨l, h1, h2⟩ := pick_list n fun i hi => h i (by omega)
    obtain ⟨y, hy⟩ := h n (by omega)
    refine ⟨l ++ [y], by simp [h1], fun i x hx => ?_⟩
    rcases Nat.lt_or_ge i n with hi | hi
    · rw [List.getElem?_append_left (by omega)] at hx
      exact h2 i x hx
    · have hlt := (List.getElem?_eq_some_iff.1 hx).1
      rw [List.length_append, List.length_singleton] at hlt
      obtain rfl : i = n := by omega
      rw [List.getElem?_append_right (by omega), h1, Nat.sub_self] at hx
      simp only [List.getElem?_cons_zero, Option.some.injEq] at hx
      subst hx; exact hy
section
variable {H : Type} {enc : TypeId × Value → H} {w : World} {base : Nat} {spare : Nat → Bool} {held : Bool}
theorem sl_of {α : Type} {t e sz : Nat} (C : Cl α) (hu : Tryz.prog.underlying t = some (.slice e)) (hc : Tryz.prog.cellsOf e = sz) (hs : 0 < sz) (hone : ∀ {fuel : Nat} {cs : List Value} {x : DataW H × List MemPlace}, DataW.trod enc Tryz.prog w base spare held fuel e cs = some x → ∃ y : α, C (· < w.heap.size) w y cs)
    {fuel : Nat} {v : Value} {x : DataW H × List MemPlace} (h : DataW.trod enc Tryz.prog w base spare held fuel t [v] = some x) : ∃ l : List α, SlI sz C (· < w.heap.size) w v l ∧ ∃ ad cap, v = .slice ad l.length cap ∧ l.length ≤ cap := by
  rcases Go.Deep.open_slice hu h with ⟨h0, _⟩ | ⟨a, len, cap, m, k, D, Pl, h0, hb, hl, hm, hmm, _, hx⟩
  · simp only [List.cons.injEq, and_true] at h0
    subst h0
    exact ⟨[], SlI.nil _ _, none, 0, rfl, Nat.le_refl _⟩
  · simp only [List.cons.injEq, and_true] at h0
    subst h0
    have hle : len ≤ m := by rw [hmm]; split <;> omega
    have hat : ∀ i, i < len → ∃ y : α, ∃ cs, cs.length = sz ∧ (∀ j c, cs[j]? = some c → w.cell? ((a.add (i * sz)).add j) = some c) ∧ C (· < w.heap.size) w y cs := by
      intro i hi
      obtain ⟨cs', h1, h2⟩ := hx i (by omega)
      obtain ⟨y, hy⟩ := hone h2
      rw [hc] at h1
      obtain ⟨_, hlen, hcs⟩ := World.cells?_some h1
      refine ⟨y, cs', hlen, fun j c hj => ?_, hy⟩
      rw [hcs j (by have := (List.getElem?_eq_some_iff.1 hj).1; omega)]; exact hj
    obtain ⟨l, hl1, hl2⟩ := pick_list len hat
    subst hl1
    refine ⟨l, ⟨some a, cap, rfl, fun i x hi => ?_⟩, some a, cap, rfl, hl⟩
    have hspot : a.spot = none ∧ a.block < w.heap.size := by
      obtain ⟨y, cs, h1, h2, _⟩ := hat 0 (by have := (List.getElem?_eq_some_iff.1 hi).1; omega)
      obtain ⟨c, hc0⟩ : ∃ c, cs[0]? = some c := ⟨_, List.getElem?_eq_getElem (by omega)⟩
      have := h2 0 c hc0
      simp only [Nat.zero_mul, Addr.add, if_true] at this
      unfold World.cell? at this
      cases hg : w.heap[a.block]? with
      | none => simp [hg] at this
      | some o =>
        refine ⟨?_, (Array.getElem?_eq_some_iff.1 hg).1⟩
        cases hq : a.spot with
        | none => rfl
        | some q => cases o <;> simp [hg, hq] at this
    obtain ⟨cs, h1, h2, h3⟩ := hl2 i x hi
    have ha : a = ⟨a.block, a.off, none⟩ := by cases a; simp only at hspot; rw [hspot.1]
    refine ⟨a.block, a.off, cs, by rw [← ha], hspot.2, fun j c hj => ?_, h3⟩
    have := h2 j c hj
    rw [ha, add_off, add_off] at this
    exact this
theorem k36 : Tryz.prog.cellsOf 36 = 1 := by kernel_rfl
theorem k38 : Tryz.prog.cellsOf 38 = 2 := by kernel_rfl
theorem k59 : Tryz.prog.cellsOf 59 = 8 := by kernel_rfl
theorem k33 : Tryz.prog.cellsOf 33 = 4 := by kernel_rfl
theorem text_raw {fuel : Nat} {cs : List Value} {x : DataW H × List MemPlace} (h : DataW.trod enc Tryz.prog w base spare held fuel 9 cs = some x) : ∃ y : ByteArray, CS (· < w.heap.size) w y cs := by
  obtain ⟨s, e, _, _⟩ := DataW.trod_string Tryz.underlying9 h
  exact ⟨s, e⟩
theorem al_raw {fuel : Nat} {cs : List Value} {x : DataW H × List MemPlace} (h : DataW.trod enc Tryz.prog w base spare held fuel 59 cs = some x) : ∃ y : Al, CA (· < w.heap.size) w y cs := by
  obtain ⟨xs, n, _, hx, hl, hlen, hf⟩ := DataW.trod_struct Tryz.underlying59 h
  rw [k59] at hl
  match cs, hl with
  | [a0, a1, a2, a3, a4, a5, a6, a7], _ =>
    match xs, hlen with
    | [y0, y1, y2, y3, y4], _ =>
      have h0 : DataW.trod enc Tryz.prog w base spare held n 9 (([a0, a1, a2, a3, a4, a5, a6, a7].drop 0).take (Tryz.prog.cellsOf 9)) = some y0 := hf 0 _ rfl
      have h1 : DataW.trod enc Tryz.prog w base spare held n 33 (([a0, a1, a2, a3, a4, a5, a6, a7].drop 1).take (Tryz.prog.cellsOf 33)) = some y1 := hf 1 _ rfl
      have h2 : DataW.trod enc Tryz.prog w base spare held n 3 (([a0, a1, a2, a3, a4, a5, a6, a7].drop 5).take (Tryz.prog.cellsOf 3)) = some y2 := hf 2 _ rfl
      have h3 : DataW.trod enc Tryz.prog w base spare held n 9 (([a0, a1, a2, a3, a4, a5, a6, a7].drop 6).take (Tryz.prog.cellsOf 9)) = some y3 := hf 3 _ rfl
      have h4 : DataW.trod enc Tryz.prog w base spare held n 9 (([a0, a1, a2, a3, a4, a5, a6, a7].drop 7).take (Tryz.prog.cellsOf 9)) = some y4 := hf 4 _ rfl
      rw [c9] at h0 h3 h4
      rw [k33] at h1
      rw [c3] at h2
      obtain ⟨s0, e0, _, _⟩ := DataW.trod_string Tryz.underlying9 h0
      obtain ⟨u, hu, q1, q2, q3, q4⟩ := num_raw h1
      obtain ⟨k, e2, _, _⟩ := DataW.trod_int Tryz.underlying3 h2
      obtain ⟨s3, e3, _, _⟩ := DataW.trod_string Tryz.underlying9 h3
      obtain ⟨s4, e4, _, _⟩ := DataW.trod_string Tryz.underlying9 h4
      simp only [List.drop_zero, List.take_succ_cons, List.take_zero, List.cons.injEq, and_true] at e0
      simp only [List.drop_succ_cons, List.drop_zero, List.take_succ_cons, List.take_zero, List.cons.injEq, and_true] at e2 e3 e4
      subst e0 q1 q2 q3 q4 e2 e3 e4
      exact ⟨(s0, u, k, s3, s4), rfl, hu⟩
theorem ex_raw {fuel : Nat} {cs : List Value} {x : DataW H × List MemPlace} (h : DataW.trod enc Tryz.prog w base spare held fuel 38 cs = some x) : ∃ y : Ex, CE (· < w.heap.size) w y cs := by
  obtain ⟨xs, n, _, hx, hl, hlen, hf⟩ := DataW.trod_struct Tryz.underlying38 h
  rw [k38] at hl
  match cs, hl with
  | [a0, a1], _ =>
    match xs, hlen with
    | [y0, y1], _ =>
      have h0 : DataW.trod enc Tryz.prog w base spare held n 9 (([a0, a1].drop 0).take (Tryz.prog.cellsOf 9)) = some y0 := hf 0 _ rfl
      have h1 : DataW.trod enc Tryz.prog w base spare held n 36 (([a0, a1].drop 1).take (Tryz.prog.cellsOf 36)) = some y1 := hf 1 _ rfl
      rw [c9] at h0
      rw [k36] at h1
      obtain ⟨s0, e0, _, _⟩ := DataW.trod_string Tryz.underlying9 h0
      simp only [List.drop_zero, List.take_succ_cons, List.take_zero, List.cons.injEq, and_true] at e0
      subst e0
      obtain ⟨l, hl, _⟩ := sl_of CA Tryz.underlying36 k59 (by omega) al_raw h1
      exact ⟨(s0, l), a1, rfl, hl⟩
theorem open_fixed {r : Reach} {b0 : Nat} {v : Value} {d : DataW H} {p : List MemPlace} (hv : Value.okWide Tryz.prog w r b0 25 v) (h : DataW.Trod enc Tryz.prog w base spare held 25 v d p) : ∃ (f : Fi) (pv : Value), v = fxdV f pv ∧ PaI w pv f.1 ∧ f.2.1 < M := by
  obtain ⟨c0, c1, c2, c3, y0, y1, y2, y3, n, rfl, _, _, h0, h1, h2, h3⟩ := Go.Joins.open_agg4 Tryz.underlying25 (by kernel_rfl) (by kernel_rfl) hv h
  obtain ⟨l, hl, hc⟩ := sl_of CS Tryz.underlying22 c9 (by omega) text_raw h0
  obtain ⟨a1, e1, rfl, w1⟩ := DataW.trod_int Tryz.underlying23 h1
  obtain ⟨k1, rfl, g1⟩ := wf_u64 w1
  obtain ⟨s2, e2, _, _⟩ := DataW.trod_string Tryz.underlying9 h2
  obtain ⟨t3, e3, _, _⟩ := DataW.trod_int Tryz.underlying3 h3
  simp only [List.cons.injEq, and_true] at e1 e2 e3
  subst e1 e2 e3
  exact ⟨(l, k1, s2, t3), c0, rfl, ⟨hl, hc⟩, g1⟩
theorem open_var {r : Reach} {b0 : Nat} {v : Value} {d : DataW H} {p : List MemPlace} (hv : Value.okWide Tryz.prog w r b0 28 v) (h : DataW.Trod enc Tryz.prog w base spare held 28 v d p) : ∃ (x : Va) (ev : Value), v = vaV x ev ∧ ExI w ev x.2.2.2 ∧ x.1 < M := by
  obtain ⟨c0, c1, c2, c3, y0, y1, y2, y3, n, rfl, _, _, h0, h1, h2, h3⟩ := Go.Joins.open_agg4 Tryz.underlying28 (by kernel_rfl) (by kernel_rfl) hv h
  obtain ⟨l, hl, hc⟩ := sl_of CE Tryz.underlying26 k38 (by omega) ex_raw h3
  obtain ⟨a1, e1, rfl, w1⟩ := DataW.trod_int Tryz.underlying23 h0
  obtain ⟨k1, rfl, g1⟩ := wf_u64 w1
  obtain ⟨b1, e2, _⟩ := DataW.trod_bool Tryz.underlying4 h1
  obtain ⟨s2, e3, _, _⟩ := DataW.trod_string Tryz.underlying9 h2
  simp only [List.cons.injEq, and_true] at e1 e2 e3
  subst e1 e2 e3
  exact ⟨(k1, b1, s2, l), c3, rfl, hl, g1⟩
end
end Go.Proofs.YtomdiafkoeefpaaGreatDoor
namespace Go.Proofs.YtomdiafkoeefpaaGreatDoor
open Go.ChangeShapes Go.WideShapes Go.ChangeAt Go.RowKit
set_option linter.unusedVariables false
abbrev laid5 : List (String × DataW Unit) := [("unicode/utf8.acceptRanges", Rows.laid_unicode_utf8_acceptRanges), ("truce/hash.turns", Rows.laid_truce_hash_turns), ("truce/hash.places", Rows.laid_truce_hash_places), ("truce/hash.marks", Rows.laid_truce_hash_marks), ("unicode/utf8.first", Rows.laid_unicode_utf8_first)]
theorem gMarks : Tryz.prog.globalNamed "truce/hash.marks" = some 0 := by kernel_rfl
theorem gTurns : Tryz.prog.globalNamed "truce/hash.turns" = some 1 := by kernel_rfl
theorem gPlaces : Tryz.prog.globalNamed "truce/hash.places" = some 2 := by kernel_rfl
theorem tMarks : (Tryz.prog.globals[0]?).map (·.type) = some 152 := by kernel_rfl
theorem tTurns : (Tryz.prog.globals[1]?).map (·.type) = some 150 := by kernel_rfl
theorem tPlaces : (Tryz.prog.globals[2]?).map (·.type) = some 150 := by kernel_rfl
theorem row_of_trod {H : Type} {enc : TypeId × Value → H} {P : Program} {w : World} {base : Nat} {spare : Nat → Bool} {held : Bool} {fuel : Nat} {t e : TypeId} {cs : List Value} {ds : List (DataW H)} {p : List MemPlace} {n : Nat} {k : IntKind}
    (hu : P.underlying t = some (.array n e)) (he : P.underlying e = some (.int k)) (hc : P.cellsOf e = 1) (hct : P.cellsOf t = n)
    (h : DataW.trod enc P w base spare held fuel t cs = some (.agg ds, p)) (f : Nat → Nat) (hds : ds = (List.range n).map fun i => DataW.lit (.int k ((f i : Nat) : Int))) : cs = (ag k n f).toList := by
  obtain ⟨xs, m, _, hx, hlen, hxn, hel⟩ := DataW.trod_array hu h
  simp only [Prod.mk.injEq, DataW.agg.injEq] at hx
  rw [hct] at hlen
  apply List.ext_getElem?
  intro i
  rw [show (ag k n f).toList[i]? = (ag k n f)[i]? from Array.getElem?_toList, ag_get]
  by_cases hi : i < n
  · rw [if_pos hi]
    have h1 := hel i hi
    rw [hc, Nat.mul_one, List.getElem?_eq_getElem (by omega)] at h1
    obtain ⟨q, e1, e2, _⟩ := DataW.trod_int he h1
    have h2 : ds[i]? = some (.lit (.int k ((f i : Nat) : Int))) := by rw [hds, List.getElem?_map, List.getElem?_range hi]; rfl
    rw [hx.1, List.getElem?_map, List.getElem?_eq_getElem (by omega)] at h2
    simp only [Option.map_some, e2, Option.some.injEq, DataW.lit.injEq, Lit.int.injEq] at h2
    have h3 : (cs.drop i)[0]? = some (.int k q) := by
      have : (List.take 1 (cs.drop i))[0]? = some (.int k q) := by rw [e1]; rfl
      simpa [List.getElem?_take] using this
    rw [List.getElem?_drop, Nat.add_zero] at h3
    rw [h3, h2.2]
  · rw [if_neg hi, List.getElem?_eq_none (by omega)]
theorem var_block {P : Program} {w : World} {name : String} {g : Nat} {cs : Array Value} (hg : P.globalNamed name = some g) (hv : World.var? P w name = some cs) : ∃ t fr, w.heap[g]? = some (.cells cs t fr) := by
  unfold World.var? at hv
  rw [hg, Option.bind_some] at hv
  split at hv
  · rename_i c t fr e
    obtain rfl := Option.some.inj hv
    exact ⟨_, _, e⟩
  · cases hv
theorem tabs_of_laid {W : World} (h : laidMetH Tryz.prog laid5 W) : Tabs W ki := by
  rw [MakeChecks.laidMetH_plain _ _ _ (by kernel_rfl)] at h
  obtain ⟨ps, ⟨gz, tz, csz, fz, pz, qz, hgz, htz, hvz, hdz, ⟨g0, t0, cs0, f0, p0, q0, hg0, ht0, hv0, hd0, ⟨g1, t1, cs1, f1, p1, q1, hg1, ht1, hv1, hd1, ⟨g2, t2, cs2, f2, p2, q2, hg2, ht2, hv2, hd2, _, _⟩, _⟩, _⟩, _⟩, _, _⟩ := h
  obtain rfl := Option.some.inj (gTurns.symm.trans hg0)
  obtain rfl := Option.some.inj (gPlaces.symm.trans hg1)
  obtain rfl := Option.some.inj (gMarks.symm.trans hg2)
  obtain rfl := Option.some.inj (tTurns.symm.trans ht0)
  obtain rfl := Option.some.inj (tPlaces.symm.trans ht1)
  obtain rfl := Option.some.inj (tMarks.symm.trans ht2)
  have c3 : Tryz.prog.cellsOf 3 = 1 := by kernel_rfl
  have c23 : Tryz.prog.cellsOf 23 = 1 := by kernel_rfl
  have c33 : Tryz.prog.cellsOf 150 = 25 := by kernel_rfl
  have c32 : Tryz.prog.cellsOf 152 = 24 := by kernel_rfl
  have e0 := row_of_trod Tryz.underlying150 Tryz.underlying3 c3 c33 hd0 tn (by kernel_rfl)
  have e1 := row_of_trod Tryz.underlying150 Tryz.underlying3 c3 c33 hd1 pl (by kernel_rfl)
  have e2 := row_of_trod Tryz.underlying152 Tryz.underlying23 c23 c32 hd2 ki (by kernel_rfl)
  obtain ⟨t0, fr0, b0⟩ := var_block hg0 hv0
  obtain ⟨t1, fr1, b1⟩ := var_block hg1 hv1
  obtain ⟨t2, fr2, b2⟩ := var_block hg2 hv2
  have a0 := Array.toList_inj.1 e0
  have a1 := Array.toList_inj.1 e1
  have a2 := Array.toList_inj.1 e2
  exact ⟨⟨t2, fr2, by rw [b2, a2]⟩, ⟨t0, fr0, by rw [b0, a0]⟩, ⟨t1, fr1, by rw [b1, a1]⟩⟩
theorem door_met (os : Os) (args : Array Value) : laidMetH Tryz.prog laid5 ((World.laidAll Tryz.prog os laid5).forCall (fun _ _ => 0) ⟨#[], args, []⟩).memory := by
  rw [MakeChecks.laidMetH_plain _ _ _ (by kernel_rfl)]
  exact laidMet_laidAll _ (by kernel_rfl) (by kernel_rfl)
end Go.Proofs.YtomdiafkoeefpaaGreatDoor
