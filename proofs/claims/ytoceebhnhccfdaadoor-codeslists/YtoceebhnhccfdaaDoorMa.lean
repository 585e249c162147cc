/- Rows of bools: whether two are the same. -/
import Derived.Test.YtoceebhnhccfdaaDoorKr
namespace Go.Proofs.YtoceebhnhccfdaaDoor
open Go.RowKit Go.Sort Go.Shelf
set_option linter.unusedVariables false
set_option maxRecDepth 100000
/-- A row of bools in memory. -/
structure BR (w : World) (v : Value) (l : List Bool) : Prop where
  ex : ∃ g cap cur, v = .slice (some ⟨g, 0, none⟩) l.length cap ∧ w.heap[g]? = some (.cells cur 4) ∧ cur.toList.take l.length = l.map Value.bool
theorem BR.below {w w' : World} {v : Value} {l : List Bool} (h : BR w v l) (hb : RowKit.Below w.heap.size w w') : BR w' v l := by
  obtain ⟨g, cap, cur, h1, h2, h3⟩ := h.ex
  exact ⟨g, cap, cur, h1, (hb.block g (Array.getElem?_eq_some_iff.1 h2).1).trans h2, h3⟩
theorem br_load {w : World} {g : Nat} {l : List Bool} {cur : Array Value} (h : w.heap[g]? = some (.cells cur 4)) (h3 : cur.toList.take l.length = l.map Value.bool) {i : Nat} {v : Bool} (hi : l[i]? = some v) : (loadVar 4 ⟨g, 0 + i * 1, none⟩).run Tryd.prog w = .ok (.bool v) w := by
  have hil := (List.getElem?_eq_some_iff.1 hi).1
  have hcu : cur[i]? = some (.bool v) := by
    have := congrArg (·[i]?) h3
    simp only [List.getElem?_take, if_pos hil, List.getElem?_map, hi, Option.map_some] at this
    simpa using this
  have hc : CellsAt w g (0 + i * 1) [.bool v] := by
    intro j c hc
    have hj : j = 0 := by have := (List.getElem?_eq_some_iff.1 hc).1; simp at this; exact this
    subst hj
    cases hc
    simp [World.cell?, h, hcu]
  exact load1 hc 0 rfl 4 Tryd.underlying4 rfl
theorem run_neq4 {x y b : Bool} (h : (x != y) = b) (o1 o2 : Operand) (w : World) : (do eqGuard .neq 4 o1 o2 (.bool x) (.bool y); binOp .neq 4 (.bool x) (.bool y) : Sem Value).run Tryd.prog w = .ok (.bool b) w := by subst h; cases x <;> cases y <;> simp [go_sem]
abbrev boK : List Nat := [0, 1, 4, 12, 13]
abbrev boW (u v : Value) (n i : Nat) : Vs := frm 26 [(0, Sum.inl u), (1, Sum.inl v), (4, Sum.inl (.bool false)), (12, Sum.inl (Z n)), (13, Sum.inl (Z i))]
set_option maxHeartbeats 4000000 in
theorem bools_any {w : World} {u v : Value} {l m : List Bool} (hu : BR w u l) (hv : BR w v m) (hl : l.length < 100000000) (hm : m.length < 100000000) : Calls Tryd.prog 19 #[u, v] w fun e w' => e = .returned (.bool (decide (l = m))) ∧ RowKit.Below w.heap.size w w' := by
  obtain ⟨gu, cu, ru, rfl, u1, u2⟩ := hu.ex
  obtain ⟨gv, cv, rv, rfl, v1, v2⟩ := hv.ex
  have lu := (Array.getElem?_eq_some_iff.1 u1).1
  have lv := (Array.getElem?_eq_some_iff.1 v1).1
  refine inQ (J := RowKit.Below w.heap.size w) (F := (· < w.heap.size)) Tryd.func19 (RowKit.Below.refl _ _) fun a I => ?_
  by_cases hlm : l.length = m.length
  · refine goQ [lS Tryd.underlying36 (ad := some ⟨gu, 0, none⟩) (n := l.length) (cap := cu) rfl, lS Tryd.underlying36 (ad := some ⟨gv, 0, none⟩) (n := m.length) (cap := cv) rfl, bO .neq 3 (run_neqZ (x := l.length) (y := m.length) (b := false) (by simp; omega)), lS Tryd.underlying36 (ad := some ⟨gu, 0, none⟩) (n := l.length) (cap := cu) rfl] (nonR w) I fun β a w1 I1 hb => ?_
    let St : Nat → Act → World → Prop := fun k a w' => ∃ (i : Nat) (β : Nat → Nat) (u : Nat → Value), k = l.length - i ∧ i ≤ l.length ∧ l.take i = m.take i ∧ SI (RowKit.Below w.heap.size w) (· < w.heap.size) [] β (cfC (bodyL Tryd.f19) (fillF (scrF 26 boK) u 0 (boW (.slice (some ⟨gu, 0, none⟩) l.length cu) (.slice (some ⟨gv, 0, none⟩) m.length cv) l.length i)) [] 0) a w'
    refine lpM (bodyL Tryd.f19) St l.length ?_ ?_
    · obtain ⟨u', Iu⟩ := I1.scr (bodyL Tryd.f19) (scrF 26 boK) (boW (.slice (some ⟨gu, 0, none⟩) l.length cu) (.slice (some ⟨gv, 0, none⟩) m.length cv) l.length 0) [] 0
      exact ⟨0, β, u', by omega, Nat.zero_le _, rfl, Iu⟩
    rintro k a3 w3 ⟨i, β3, u', rfl, hi, htk, I3⟩
    refine wp_cfC (tm := fillF (scrF 26 boK) u' 0 (boW (.slice (some ⟨gu, 0, none⟩) l.length cu) (.slice (some ⟨gv, 0, none⟩) m.length cv) l.length i)) (rows := []) (nx := 0) ?_
    rcases Nat.lt_or_ge i l.length with hil | hil
    · obtain ⟨x, hx⟩ : ∃ x, l[i]? = some x := ⟨_, List.getElem?_eq_getElem hil⟩
      obtain ⟨y, hy⟩ : ∃ y, m[i]? = some y := ⟨_, List.getElem?_eq_getElem (by omega)⟩
      have hlu : ∀ w', RowKit.Below w.heap.size w w' → (loadVar 4 ⟨gu, 0 + i * 1, none⟩).run Tryd.prog w' = .ok (.bool x) w' := fun w' h => br_load ((h.block gu lu).trans u1) u2 hx
      have hlv : ∀ w', RowKit.Below w.heap.size w w' → (loadVar 4 ⟨gv, 0 + i * 1, none⟩).run Tryd.prog w' = .ok (.bool y) w' := fun w' h => br_load ((h.block gv lv).trans v1) v2 hy
      refine goQ [bO .lss 3 (run_lssZ (x := i) (y := l.length) (b := true) (by simp; omega))] (nonR w) I3 fun β4 a4 w4 I4 hb4 => ?_
      obtain ⟨q, hq⟩ : ∃ q, (x != y) = q := ⟨_, rfl⟩
      refine dwT (T := RowKit.Below w.heap.size w) 9 [iA 36 Tryd.underlying36 (sz := 1) (by kernel_rfl) (g := gu) (off := 0) (n := l.length) (cap := cu) hil, ldA 4 hlu, iA 36 Tryd.underlying36 (sz := 1) (by kernel_rfl) (g := gv) (off := 0) (n := m.length) (cap := cv) (i := i) (by omega), ldA 4 hlv, bO .neq 4 (run_neq4 (x := x) (y := y) hq)] (nonR w) (fun _ h => h) (PanOk.then PanOk.post.qk) I4 fun a5 w5 I5 => ?_
      cases q with
      | false =>
        have hxy : x = y := by simpa using hq
        refine goQ [bO .add 3 (run_addZ (x := i) (y := 1) (z := (i + 1 : Nat)) (by rw [wz (by omega) (by omega)]; omega))] (nonR w) I5 fun β6 a6 w6 I6 hb6 => ?_
        obtain ⟨u6, Iu⟩ := I6.scr (bodyL Tryd.f19) (scrF 26 boK) (boW (.slice (some ⟨gu, 0, none⟩) l.length cu) (.slice (some ⟨gv, 0, none⟩) m.length cv) l.length (i + 1)) [] 0
        refine endL ⟨l.length - (i + 1), by omega, i + 1, β6, u6, rfl, hil, ?_, Iu⟩
        rw [List.take_add_one, List.take_add_one, htk, hx, hy, hxy]
      | true =>
        have hxy : x ≠ y := by simpa using hq
        have hne : decide (l = m) = false := by
          rw [decide_eq_false_iff_not]
          rintro rfl
          rw [hx] at hy
          exact hxy (Option.some.inj hy)
        rw [hne]
        refine goQ [] (nonR w) I5 fun β6 a6 w6 I6 hb6 => ?_
        exact endR (retV (v := .bool false) I6 ⟨rfl, I6.hJ⟩)
    · obtain rfl : i = l.length := by omega
      have he : decide (l = m) = true := by
        rw [decide_eq_true_eq]
        rw [List.take_length, hlm, List.take_length] at htk
        exact htk
      rw [he]
      refine goQ [bO .lss 3 (run_lssZ (x := l.length) (y := l.length) (b := false) (by simp))] (nonR w) I3 fun β4 a4 w4 I4 hb4 => ?_
      refine endE 0 ?_
      refine goQ [] (nonR w) (I4.exit _) fun β5 a5 w5 I5 hb5 => ?_
      exact outQ (v := .bool true) I5 ⟨rfl, I5.hJ⟩
  · have hne : decide (l = m) = false := by
      rw [decide_eq_false_iff_not]
      rintro rfl
      exact hlm rfl
    rw [hne]
    refine goQ [lS Tryd.underlying36 (ad := some ⟨gu, 0, none⟩) (n := l.length) (cap := cu) rfl, lS Tryd.underlying36 (ad := some ⟨gv, 0, none⟩) (n := m.length) (cap := cv) rfl, bO .neq 3 (run_neqZ (x := l.length) (y := m.length) (b := true) (by simp; omega))] (nonR w) I fun β a w1 I1 hb => ?_
    exact outQ (v := .bool false) I1 ⟨rfl, I1.hJ⟩
end Go.Proofs.YtoceebhnhccfdaaDoor
