/- The walk of the law HashPermutes. -/
import Derived.Test.YthpjdnapoafkgaaDoorAw
import Derived.ChangeKeysEq
import Derived.BigQuiet
namespace Go.Proofs.YthpjdnapoafkgaaDoor
open Go.RowKit
set_option linter.unusedVariables false
theorem info22 : Tryd.prog.info? 22 = some ((Tryd.prog.info? 22).getD default) := by kernel_rfl
theorem cells22 : Tryd.prog.cellsOf 22 = 1 := by kernel_rfl
theorem run_eq25 (f g : Nat → Nat) (w : World) : (Op.equalIn 10000 23 (A25 f) (A25 g)).run Tryd.prog w = .ok ((List.range 25).all fun i => f i == g i) w := by
  rw [run_equalIn_array w 9999 _ _ Tryd.underlying23 info22, cells22]
  have hr : ∀ i ∈ List.range 25, i < 25 := fun i hi => by simpa using hi
  generalize List.range 25 = is at *
  induction is with
  | nil => simp [Op.eqItems]
  | cons j is ih =>
    have hj := hr j (by simp)
    have ih' := ih (fun i hi => hr i (by simp [hi]))
    have hx : (ag .u64 25 f)[j]? = some (.int .u64 (f j : Nat)) := by rw [ag_get, if_pos hj]
    have hy : (ag .u64 25 g)[j]? = some (.int .u64 (g j : Nat)) := by rw [ag_get, if_pos hj]
    simp [Op.eqItems, part, isAgg, run_underlying Tryd.underlying22]
    rw [hx, hy]
    simp only [Sem.run_pure, Result.andThen_ok]
    rw [run_equalIn_int w 9998 22 .u64 .u64 _ _ Tryd.underlying22]
    by_cases h : f j = g j
    · simp [h, ih']
    · have h2 : ¬ ((f j : Nat) : Int) = ((g j : Nat) : Int) := fun e => h (Int.ofNat.inj e)
      simp [h2, h]
theorem wpQuiet_rload {ops : Array Oper} {rest : List Oper} {o : Oper} {a : Act} {w : World} {Q : Act → Prop} (hgd : o.guard = none) (ty : TypeId) (x : Operand) (ho : o.op = .load ty x)
    (g : Nat) (hx : a.eval x = .pointer (some ⟨g, 0, none⟩)) (k : IntKind) (m : Nat) (f : Nat → Nat) {e : TypeId} (hr : HasRow w g (ag k m f))
    (hu : Tryd.prog.underlying ty = some (.array m e)) (hi : (Tryd.prog.info? ty).map (·.size) = some m)
    (h : wpQuiet Tryd.prog ops (fun w' => ∃ p : Regrown, w' = Sort.grow (redrawn w p.d) p.os) Q rest (a.put o.dst (.agg (ag k m f)))) :
    wpQuiet Tryd.prog ops (fun w' => ∃ p : Regrown, w' = Sort.grow (redrawn w p.d) p.os) Q (o :: rest) a := by
  refine Go.BigFrame.wpQuiet_want (by simp [Region.wanted, hgd]) fun K hK => ⟨.agg (ag k m f), ?_, hK _ h⟩
  rintro w' ⟨p, rfl⟩
  have hl := run_load_to (P := Tryd.prog) ty hu hi (hr.below (below_regrown w p.d p.os))
  unfold Oper.quietAt execOp
  simp only [ho, hx, Instr.loadAt, Instr.sureAddr, Sem.run_bind, Sem.run_pure, Result.andThen_ok, hl]
  exact ⟨rfl, rfl⟩

set_option maxRecDepth 100000 in
set_option maxHeartbeats 1000000 in
theorem permutes_gen (f h : Nat → Nat) (w : World)
    (h1 : Hid (∀ w', Below w.heap.size w w' → Calls Tryd.prog 8 #[A25 f] w' fun e w'' => e = .returned (A25 h) ∧ Below w'.heap.size w' w''))
    (h2 : Hid (∀ w', Below w.heap.size w w' → Calls Tryd.prog 9 #[A25 f] w' fun e w'' => e = .returned (A25 h) ∧ Below w'.heap.size w' w''))
    (h3 : Hid (∀ w', Below w.heap.size w w' → Calls Tryd.prog 10 #[] w' fun e w'' => e = .returned (.bool true) ∧ Below w'.heap.size w' w'')) :
    Calls Tryd.prog 3 #[A25 f] w fun e w' => e = .returned (.bool true) ∧ Below w.heap.size w w' := by
  have heq : ∀ w, (Op.equalIn 10000 23 (A25 h) (A25 h)).run Tryd.prog w = .ok true w := fun w => by rw [run_eq25]; simp
  go_enter Tryd.func3, Tryd.ntmps3
  go_upto_region 1 with fail
  refine name_world _ ?_
  intro w0 hw0
  have K1 : Hid (HasRow w0 w.heap.size (ag .u64 25 f) ∧ Below w.heap.size w w0) := by
    show _ ∧ _
    rw [hw0]
    exact ⟨HasRow.last rfl, by repeat (first | exact Below.refl _ _ | refine bel_alloc ?_ _)⟩
  clear hw0
  have g1 : ∀ d os, Below w.heap.size w (Sort.grow (redrawn w0 d) os) := fun d os => K1.out.2.trans ((below_regrown w0 d os).mono K1.out.2.size)
  have G1 : Hid _ := g1
  clear g1
  refine wp_region_quiet_below (by kernel_rfl) (by kernel_rfl) ?_
  refine wpQuiet_rload rfl 23 (.tmp 1) rfl w.heap.size rfl .u64 25 f K1.out.1 Tryd.underlying23 (by kernel_rfl) ?_
  simp only [Act.put, List.setIfInBounds_toArray, List.set_cons_succ, List.set_cons_zero]
  go_big_quiet_step ((exact Calls.regrown_of (h1.out _ (G1.out _ _))))
  refine wpQuiet_rload rfl 23 (.tmp 1) rfl w.heap.size rfl .u64 25 f K1.out.1 Tryd.underlying23 (by kernel_rfl) ?_
  simp only [Act.put, List.setIfInBounds_toArray, List.set_cons_succ, List.set_cons_zero]
  go_big_quiet_step ((exact Calls.regrown_of (h2.out _ (G1.out _ _))))
  repeat (go_big_quiet_step (fail))
  go_big_quiet_step ((exact Calls.regrown_of (h3.out _ (G1.out _ _))))
  repeat (go_big_quiet_step (fail))
  refine wpQuiet_nil ?_
  intro w5 hw'
  have hb : Below w0.heap.size w0 w5 := by obtain ⟨p, rfl⟩ := hw'; exact below_regrown _ _ _
  clear hw'
  have HB : Hid (Below w.heap.size w w5) := K1.out.2.trans (hb.mono K1.out.2.size)
  clear hb
  go_wp2
  go_ret
  exact ⟨rfl, HB.out⟩
theorem permutes_walk (f : Nat → Nat) (hf : P25 f) (w : World) (ht : Tabs w ki) : Calls Tryd.prog 3 #[A25 f] w fun e w' => e = .returned (.bool true) ∧ Below w.heap.size w w' :=
  permutes_gen f (prm f 24) w (fun w' hb => permute_any f hf w' (ht.below hb)) (fun w' _ => rpermute_any f hf w') (fun w' hb => awake_any w' (ht.below hb))
end Go.Proofs.YthpjdnapoafkgaaDoor
