/- Out of Vp. -/
import Derived.Test.YtceedgdbhlpjlaaGreatDoorKfVo
namespace Go.Proofs.YtceedgdbhlpjlaaGreatDoor
open Go.RowKit Go.Sort
set_option linter.unusedVariables false
set_option maxRecDepth 100000
set_option maxHeartbeats 4000000
/-- A stack that can be read: its numbers lie there, the lowest first. -/
def SkR (w : World) (v : Value) (s : List Nat) : Prop := ∃ ad cap, v = .slice ad s.length cap ∧ ∀ j, j < s.length → ∃ b off, ad = some ⟨b, off, none⟩ ∧ CellsAt w b (off + j * 4) (uc (tp s (s.length - 1 - j)))
theorem SkR.below {w w' : World} {v : Value} {s : List Nat} (h : SkR w v s) (hb : Below w.heap.size w w') : SkR w' v s := by
  obtain ⟨ad, cap, rfl, h⟩ := h
  refine ⟨ad, cap, rfl, fun j hj => ?_⟩
  obtain ⟨b, off, e, hc⟩ := h j hj
  refine ⟨b, off, e, fun k c hk => ?_⟩
  have h1 := hc k c hk
  have hlt : b < w.heap.size := World.block_lt_of_cell? w ⟨b, off + j * 4 + k, none⟩ h1
  exact (World.cell?_of_block (a := ⟨b, off + j * 4 + k, none⟩) (hb.block b hlt)).trans h1
theorem own_skr {w : World} {b0 : Nat} {v : Value} {s : List Nat} (h : w.ownsRow b0 38 4 v s.length (sC s)) : SkR w v s := by
  rcases h.2 with ⟨rfl, h2⟩ | ⟨k, cap, cur, rfl, h3⟩
  · have : s = [] := List.eq_nil_of_length_eq_zero h2
    subst this
    exact ⟨none, 0, rfl, fun j hj => by simp at hj⟩
  · refine ⟨some ⟨k, 0, none⟩, cap, rfl, fun j hj => ⟨k, 0, rfl, fun i c hc => ?_⟩⟩
    have hi : i < 4 := (List.getElem?_eq_some_iff.1 hc).1
    rw [← sC_get s (s.length - 1 - j) i (by omega) hi] at hc
    have := h.cells (g := k) rfl _ _ hc
    rw [add_off] at this
    rw [← this]
    congr 2
    omega
def samB (f g : Fr) : Bool := decide (f.code = g.code ∧ f.inp = g.inp ∧ f.mem = g.mem ∧ f.pc = g.pc ∧ f.gas = g.gas ∧ f.sd = g.sd ∧ f.er = g.er ∧ f.out = g.out ∧ f.st = g.st)
theorem samB_eq {f g : Fr} (h : f = g) : samB f g = true := by subst h; simp [samB]
theorem neq23 {x y : Int} {b : Bool} (h : decide (x ≠ y) = b) (o1 o2 : Operand) (w : World) : (do eqGuard .neq 23 o1 o2 (Z x) (Z y); binOp .neq 23 (Z x) (Z y) : Sem Value).run Tryz.prog w = .ok (.bool b) w := by
  subst h
  by_cases hq : x = y <;> simp [go_sem, hq]
theorem tp_ext {s t : List Nat} (hl : s.length = t.length) (h : ∀ k, k < s.length → tp s k = tp t k) : s = t := by
  apply List.ext_getElem hl
  intro k h1 h2
  have := h k h1
  unfold tp at this
  rw [List.getD_eq_getElem?_getD, List.getD_eq_getElem?_getD, List.getElem?_eq_getElem h1, List.getElem?_eq_getElem h2] at this
  simpa using this
theorem rsame_any (f g : Fr) (v v' : Value) (hnf : ∀ u ∈ f.st, u < W) (hng : ∀ u ∈ g.st, u < W) (hlf : f.st.length ≤ 100000) (w : World) (h1 : SkR w v f.st) (h2 : SkR w v' g.st) : Calls Tryz.prog 10 #[frV f v, frV g v'] w fun e w' => e = .returned (.bool (samB f g)) ∧ Below w.heap.size w w' := by
  obtain ⟨ad, cap, rfl, hr⟩ := h1
  obtain ⟨ad', cap', rfl, hr'⟩ := h2
  refine inQ (J := Below w.heap.size w) (F := (· < w.heap.size)) Tryz.func10 (Below.refl _ _) fun Az I => ?_
  by_cases q_code : f.code ≠ g.code
  · refine goQ [bO .neq 9 (neS_run (a := f.code) (b := g.code) (q := true) (decide_eq_true q_code))] (nonR w) I fun β1 A1 w1 I1 hb1 => ?_
    exact outQ (v := .bool false) I1 ⟨by rw [show samB f g = false from decide_eq_false fun h => q_code (by simp [h])], I1.hJ⟩
  replace q_code : f.code = g.code := Decidable.not_not.1 q_code
  by_cases q_inp : f.inp ≠ g.inp
  · refine goQ [bO .neq 9 (neS_run (a := f.code) (b := g.code) (q := false) (decide_eq_false (Decidable.not_not.2 q_code))), bO .neq 9 (neS_run (a := f.inp) (b := g.inp) (q := true) (decide_eq_true q_inp))] (nonR w) I fun β1 A1 w1 I1 hb1 => ?_
    exact outQ (v := .bool false) I1 ⟨by rw [show samB f g = false from decide_eq_false fun h => q_inp (by simp [h])], I1.hJ⟩
  replace q_inp : f.inp = g.inp := Decidable.not_not.1 q_inp
  by_cases q_mem : f.mem ≠ g.mem
  · refine goQ [bO .neq 9 (neS_run (a := f.code) (b := g.code) (q := false) (decide_eq_false (Decidable.not_not.2 q_code))), bO .neq 9 (neS_run (a := f.inp) (b := g.inp) (q := false) (decide_eq_false (Decidable.not_not.2 q_inp))), bO .neq 9 (neS_run (a := f.mem) (b := g.mem) (q := true) (decide_eq_true q_mem))] (nonR w) I fun β1 A1 w1 I1 hb1 => ?_
    exact outQ (v := .bool false) I1 ⟨by rw [show samB f g = false from decide_eq_false fun h => q_mem (by simp [h])], I1.hJ⟩
  replace q_mem : f.mem = g.mem := Decidable.not_not.1 q_mem
  by_cases q_pc : f.pc ≠ g.pc
  · refine goQ [bO .neq 9 (neS_run (a := f.code) (b := g.code) (q := false) (decide_eq_false (Decidable.not_not.2 q_code))), bO .neq 9 (neS_run (a := f.inp) (b := g.inp) (q := false) (decide_eq_false (Decidable.not_not.2 q_inp))), bO .neq 9 (neS_run (a := f.mem) (b := g.mem) (q := false) (decide_eq_false (Decidable.not_not.2 q_mem))), bO .neq 3 (run_neqZ (x := f.pc) (y := g.pc) (b := true) (decide_eq_true q_pc))] (nonR w) I fun β1 A1 w1 I1 hb1 => ?_
    exact outQ (v := .bool false) I1 ⟨by rw [show samB f g = false from decide_eq_false fun h => q_pc (by simp [h])], I1.hJ⟩
  replace q_pc : f.pc = g.pc := Decidable.not_not.1 q_pc
  by_cases q_gas : f.gas ≠ g.gas
  · refine goQ [bO .neq 9 (neS_run (a := f.code) (b := g.code) (q := false) (decide_eq_false (Decidable.not_not.2 q_code))), bO .neq 9 (neS_run (a := f.inp) (b := g.inp) (q := false) (decide_eq_false (Decidable.not_not.2 q_inp))), bO .neq 9 (neS_run (a := f.mem) (b := g.mem) (q := false) (decide_eq_false (Decidable.not_not.2 q_mem))), bO .neq 3 (run_neqZ (x := f.pc) (y := g.pc) (b := false) (decide_eq_false (Decidable.not_not.2 q_pc))), bO .neq 3 (run_neqZ (x := f.gas) (y := g.gas) (b := true) (decide_eq_true q_gas))] (nonR w) I fun β1 A1 w1 I1 hb1 => ?_
    exact outQ (v := .bool false) I1 ⟨by rw [show samB f g = false from decide_eq_false fun h => q_gas (by simp [h])], I1.hJ⟩
  replace q_gas : f.gas = g.gas := Decidable.not_not.1 q_gas
  by_cases q_sd : f.sd ≠ g.sd
  · refine goQ [bO .neq 9 (neS_run (a := f.code) (b := g.code) (q := false) (decide_eq_false (Decidable.not_not.2 q_code))), bO .neq 9 (neS_run (a := f.inp) (b := g.inp) (q := false) (decide_eq_false (Decidable.not_not.2 q_inp))), bO .neq 9 (neS_run (a := f.mem) (b := g.mem) (q := false) (decide_eq_false (Decidable.not_not.2 q_mem))), bO .neq 3 (run_neqZ (x := f.pc) (y := g.pc) (b := false) (decide_eq_false (Decidable.not_not.2 q_pc))), bO .neq 3 (run_neqZ (x := f.gas) (y := g.gas) (b := false) (decide_eq_false (Decidable.not_not.2 q_gas))), bO .neq 3 (run_neqZ (x := f.sd) (y := g.sd) (b := true) (decide_eq_true q_sd))] (nonR w) I fun β1 A1 w1 I1 hb1 => ?_
    exact outQ (v := .bool false) I1 ⟨by rw [show samB f g = false from decide_eq_false fun h => q_sd (by simp [h])], I1.hJ⟩
  replace q_sd : f.sd = g.sd := Decidable.not_not.1 q_sd
  by_cases q_er : f.er ≠ g.er
  · refine goQ [bO .neq 9 (neS_run (a := f.code) (b := g.code) (q := false) (decide_eq_false (Decidable.not_not.2 q_code))), bO .neq 9 (neS_run (a := f.inp) (b := g.inp) (q := false) (decide_eq_false (Decidable.not_not.2 q_inp))), bO .neq 9 (neS_run (a := f.mem) (b := g.mem) (q := false) (decide_eq_false (Decidable.not_not.2 q_mem))), bO .neq 3 (run_neqZ (x := f.pc) (y := g.pc) (b := false) (decide_eq_false (Decidable.not_not.2 q_pc))), bO .neq 3 (run_neqZ (x := f.gas) (y := g.gas) (b := false) (decide_eq_false (Decidable.not_not.2 q_gas))), bO .neq 3 (run_neqZ (x := f.sd) (y := g.sd) (b := false) (decide_eq_false (Decidable.not_not.2 q_sd))), bO .neq 23 (neq23 (x := f.er) (y := g.er) (b := true) (decide_eq_true q_er))] (nonR w) I fun β1 A1 w1 I1 hb1 => ?_
    exact outQ (v := .bool false) I1 ⟨by rw [show samB f g = false from decide_eq_false fun h => q_er (by simp [h])], I1.hJ⟩
  replace q_er : f.er = g.er := Decidable.not_not.1 q_er
  by_cases q_out : f.out ≠ g.out
  · refine goQ [bO .neq 9 (neS_run (a := f.code) (b := g.code) (q := false) (decide_eq_false (Decidable.not_not.2 q_code))), bO .neq 9 (neS_run (a := f.inp) (b := g.inp) (q := false) (decide_eq_false (Decidable.not_not.2 q_inp))), bO .neq 9 (neS_run (a := f.mem) (b := g.mem) (q := false) (decide_eq_false (Decidable.not_not.2 q_mem))), bO .neq 3 (run_neqZ (x := f.pc) (y := g.pc) (b := false) (decide_eq_false (Decidable.not_not.2 q_pc))), bO .neq 3 (run_neqZ (x := f.gas) (y := g.gas) (b := false) (decide_eq_false (Decidable.not_not.2 q_gas))), bO .neq 3 (run_neqZ (x := f.sd) (y := g.sd) (b := false) (decide_eq_false (Decidable.not_not.2 q_sd))), bO .neq 23 (neq23 (x := f.er) (y := g.er) (b := false) (decide_eq_false (Decidable.not_not.2 q_er))), bO .neq 9 (neS_run (a := f.out) (b := g.out) (q := true) (decide_eq_true q_out))] (nonR w) I fun β1 A1 w1 I1 hb1 => ?_
    exact outQ (v := .bool false) I1 ⟨by rw [show samB f g = false from decide_eq_false fun h => q_out (by simp [h])], I1.hJ⟩
  replace q_out : f.out = g.out := Decidable.not_not.1 q_out
  by_cases ql : f.st.length ≠ g.st.length
  · refine goQ [bO .neq 9 (neS_run (a := f.code) (b := g.code) (q := false) (decide_eq_false (Decidable.not_not.2 q_code))), bO .neq 9 (neS_run (a := f.inp) (b := g.inp) (q := false) (decide_eq_false (Decidable.not_not.2 q_inp))), bO .neq 9 (neS_run (a := f.mem) (b := g.mem) (q := false) (decide_eq_false (Decidable.not_not.2 q_mem))), bO .neq 3 (run_neqZ (x := f.pc) (y := g.pc) (b := false) (decide_eq_false (Decidable.not_not.2 q_pc))), bO .neq 3 (run_neqZ (x := f.gas) (y := g.gas) (b := false) (decide_eq_false (Decidable.not_not.2 q_gas))), bO .neq 3 (run_neqZ (x := f.sd) (y := g.sd) (b := false) (decide_eq_false (Decidable.not_not.2 q_sd))), bO .neq 23 (neq23 (x := f.er) (y := g.er) (b := false) (decide_eq_false (Decidable.not_not.2 q_er))), bO .neq 9 (neS_run (a := f.out) (b := g.out) (q := false) (decide_eq_false (Decidable.not_not.2 q_out))), lS Tryz.underlying22 (ad := ad) (n := f.st.length) (cap := cap) (z := f.st.length) rfl, lS Tryz.underlying22 (ad := ad') (n := g.st.length) (cap := cap') (z := g.st.length) rfl, bO .neq 3 (run_neqZ (x := f.st.length) (y := g.st.length) (b := true) (decide_eq_true (by omega)))] (nonR w) I fun β1 A1 w1 I1 hb1 => ?_
    exact outQ (v := .bool false) I1 ⟨by rw [show samB f g = false from decide_eq_false fun h => ql (by simp [h])], I1.hJ⟩
  replace ql : f.st.length = g.st.length := Decidable.not_not.1 ql
  have hsam : samB f g = decide (f.st = g.st) := by unfold samB; simp [q_code, q_inp, q_mem, q_pc, q_gas, q_sd, q_er, q_out]
  rw [hsam]
  refine goQ [bO .neq 9 (neS_run (a := f.code) (b := g.code) (q := false) (decide_eq_false (Decidable.not_not.2 q_code))), bO .neq 9 (neS_run (a := f.inp) (b := g.inp) (q := false) (decide_eq_false (Decidable.not_not.2 q_inp))), bO .neq 9 (neS_run (a := f.mem) (b := g.mem) (q := false) (decide_eq_false (Decidable.not_not.2 q_mem))), bO .neq 3 (run_neqZ (x := f.pc) (y := g.pc) (b := false) (decide_eq_false (Decidable.not_not.2 q_pc))), bO .neq 3 (run_neqZ (x := f.gas) (y := g.gas) (b := false) (decide_eq_false (Decidable.not_not.2 q_gas))), bO .neq 3 (run_neqZ (x := f.sd) (y := g.sd) (b := false) (decide_eq_false (Decidable.not_not.2 q_sd))), bO .neq 23 (neq23 (x := f.er) (y := g.er) (b := false) (decide_eq_false (Decidable.not_not.2 q_er))), bO .neq 9 (neS_run (a := f.out) (b := g.out) (q := false) (decide_eq_false (Decidable.not_not.2 q_out))), lS Tryz.underlying22 (ad := ad) (n := f.st.length) (cap := cap) (z := f.st.length) rfl, lS Tryz.underlying22 (ad := ad') (n := g.st.length) (cap := cap') (z := g.st.length) rfl, bO .neq 3 (run_neqZ (x := f.st.length) (y := g.st.length) (b := false) (decide_eq_false (by omega)))] (nonR w) I fun β1 A1 w1 I1 hb1 => ?_
  rw [← ql] at hr'
  let tmS : Nat → Vs := fun j => frm 87 [(2, Sum.inr (0, 0)), (3, Sum.inr (1, 0)), (5, Sum.inl (Z (j : Int)))]
  let rwS : Rows := [(0, #[str f.code, str f.inp, .slice ad f.st.length cap, str f.mem, Z f.pc, Z f.gas, Z f.sd, Z f.er, str f.out]), (1, #[str g.code, str g.inp, .slice ad' g.st.length cap', str g.mem, Z g.pc, Z g.gas, Z g.sd, Z g.er, str g.out])]
  let St : Nat → Act → World → Prop := fun k a w' => ∃ (j : Nat) (β : Nat → Nat) (u : Nat → Value), k = f.st.length - j ∧ j ≤ f.st.length ∧ (∀ i, i < j → tp f.st (f.st.length - 1 - i) = tp g.st (f.st.length - 1 - i)) ∧
    SI (Below w.heap.size w) (· < w.heap.size) [] β (cfC (bodyL Tryz.f10) (fillF (scrF 87 [2, 3, 5]) u 0 (tmS j)) rwS 2) a w'
  refine lpM (bodyL Tryz.f10) St f.st.length ?_ ?_
  · obtain ⟨u, Iu⟩ := I1.scr (bodyL Tryz.f10) (scrF 87 [2, 3, 5]) (tmS 0) rwS 2
    exact ⟨0, β1, u, by omega, Nat.zero_le _, fun i hi => absurd hi (Nat.not_lt_zero i), Iu⟩
  rintro k a3 w3 ⟨j, β3, u, rfl, hj, hall, I3⟩
  refine wp_cfC (tm := fillF (scrF 87 [2, 3, 5]) u 0 (tmS j)) (rows := rwS) (nx := 2) ?_
  rcases Nat.lt_or_ge j f.st.length with hjl | hjl
  · obtain ⟨b, off, rfl, hc⟩ := hr j hjl
    obtain ⟨b', off', rfl, hc'⟩ := hr' j hjl
    have hx := hnf _ (tp_mem (s := f.st) (k := f.st.length - 1 - j) (by omega))
    have hy := hng _ (tp_mem (s := g.st) (k := f.st.length - 1 - j) (by omega))
    have hld : ∀ w', Below w.heap.size w w' → (loadVar 38 ⟨b, off + j * 4, none⟩).run Tryz.prog w' = .ok (.agg (uc (tp f.st (f.st.length - 1 - j))).toArray) w' := fun w' hbl => loadN Tryz.underlying38 rfl (n := 4) (by kernel_rfl) rfl fun k c hk => (World.cell?_of_block (a := ⟨b, off + j * 4 + k, none⟩) (hbl.block b (World.block_lt_of_cell? w ⟨b, off + j * 4 + k, none⟩ (hc k c hk)))).trans (hc k c hk)
    have hld' : ∀ w', Below w.heap.size w w' → (loadVar 38 ⟨b', off' + j * 4, none⟩).run Tryz.prog w' = .ok (.agg (uc (tp g.st (f.st.length - 1 - j))).toArray) w' := fun w' hbl => loadN Tryz.underlying38 rfl (n := 4) (by kernel_rfl) rfl fun k c hk => (World.cell?_of_block (a := ⟨b', off' + j * 4 + k, none⟩) (hbl.block b' (World.block_lt_of_cell? w ⟨b', off' + j * 4 + k, none⟩ (hc' k c hk)))).trans (hc' k c hk)
    obtain ⟨q, hq⟩ : ∃ q, decide (tp f.st (f.st.length - 1 - j) ≠ tp g.st (f.st.length - 1 - j)) = q := ⟨_, rfl⟩
    have hne := neqU_run hx hy hq
    have hqe : q = true → tp f.st (f.st.length - 1 - j) ≠ tp g.st (f.st.length - 1 - j) := fun h => of_decide_eq_true (hq.trans h)
    have hqf : q = false → tp f.st (f.st.length - 1 - j) = tp g.st (f.st.length - 1 - j) := fun h => Decidable.not_not.1 (of_decide_eq_false (hq.trans h))
    simp only [uc] at hld hld'
    unfold U at hne
    generalize hxx : tp f.st (f.st.length - 1 - j) = x at *
    generalize hyy : tp g.st (f.st.length - 1 - j) = y at *
    generalize l0 x = x0 at *
    generalize l1 x = x1 at *
    generalize l2 x = x2 at *
    generalize l3 x = x3 at *
    generalize l0 y = y0 at *
    generalize l1 y = y1 at *
    generalize l2 y = y2 at *
    generalize l3 y = y3 at *
    refine goQ [lS Tryz.underlying22 (ad := some ⟨b, off, none⟩) (n := f.st.length) (cap := cap) (z := f.st.length) rfl, bO .lss 3 (run_lssZ (x := j) (y := f.st.length) (b := true) (decide_eq_true (by omega)))] (nonR w) I3 fun β4 A4 w4 I4 hb4 => ?_
    refine dwT (T := Below w.heap.size w) 11 [iA 22 Tryz.underlying22 (sz := 4) (by kernel_rfl) (g := b) (off := off) (n := f.st.length) (cap := cap) (i := j) hjl, ldA 38 hld, iA 22 Tryz.underlying22 (sz := 4) (by kernel_rfl) (g := b') (off := off') (n := g.st.length) (cap := cap') (i := j) (by omega), ldA 38 hld', bO .neq 38 hne] (nonR w) (fun _ h => h) (PanOk.then (PanOk.qk PanOk.post)) I4 fun A5 w5 I5 => ?_
    cases q with
    | true =>
      refine goQ [] (nonR w) I5 fun β6 A6 w6 I6 hb6 => ?_
      exact endR (retV (v := .bool false) I6 ⟨by rw [decide_eq_false fun h => hqe rfl (by rw [← hxx, ← hyy, h])], I6.hJ⟩)
    | false =>
      refine goQ [bO .add 3 (run_addZ (x := j) (y := 1) (z := (j + 1 : Nat)) (by rw [wzf (by omega) (by omega)]; omega))] (nonR w) I5 fun β6 A6 w6 I6 hb6 => ?_
      obtain ⟨u', Iu⟩ := I6.scr (bodyL Tryz.f10) (scrF 87 [2, 3, 5]) (tmS (j + 1)) rwS 2
      exact endL ⟨f.st.length - (j + 1), by omega, j + 1, β6, u', rfl, hjl, fun i hi => by
        rcases Nat.lt_or_ge i j with h | h
        · exact hall i h
        · have : i = j := by omega
          subst this
          rw [hxx, hyy]
          exact hqf rfl, Iu⟩
  · obtain rfl : j = f.st.length := by omega
    refine goQ [lS Tryz.underlying22 (ad := ad) (n := f.st.length) (cap := cap) (z := f.st.length) rfl, bO .lss 3 (run_lssZ (x := f.st.length) (y := f.st.length) (b := false) (decide_eq_false (by omega)))] (nonR w) I3 fun β4 A4 w4 I4 hb4 => ?_
    refine endE 0 ?_
    refine goQ [] (nonR w) (I4.exit _) fun β5 A5 w5 I5 hb5 => ?_
    refine outQ (v := .bool true) I5 ⟨?_, I5.hJ⟩
    rw [decide_eq_true (tp_ext ql fun k hk => ?_)]
    have := hall (f.st.length - 1 - k) (by omega)
    rwa [show f.st.length - 1 - (f.st.length - 1 - k) = k by omega] at this
end Go.Proofs.YtceedgdbhlpjlaaGreatDoor
