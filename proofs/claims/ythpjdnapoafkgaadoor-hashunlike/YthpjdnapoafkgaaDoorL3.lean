/- The walk of the law HashUnlike. -/
import Derived.Test.YthpjdnapoafkgaaDoorL1
import Derived.Test.YthpjdnapoafkgaaDoorHu
namespace Go.Proofs.YthpjdnapoafkgaaDoor
open Go.RowKit
set_option linter.unusedVariables false
set_option maxRecDepth 100000 in
set_option maxHeartbeats 1000000 in
theorem unlike_gen (f g h k : Nat → Nat) (a : Int) (b n : Nat) (r : Bool) (w : World) (hn : Hid (n < 25))
    (hi : wrap64 ((IntKind.u64.wrap a).tmod 25) = (n : Int)) (hi2 : (n : Int) < 25)
    (hx : Hid (bits .xor .u64 (f n : Int) (b : Int) = ((f n ^^^ b : Nat) : Int)))
    (h1 : Hid (∀ w', Below w.heap.size w w' → Calls Tryd.prog 8 #[A25 f] w' fun e w'' => e = .returned (A25 h) ∧ Below w'.heap.size w' w''))
    (h2 : Hid (∀ w', Below w.heap.size w w' → Calls Tryd.prog 8 #[A25 g] w' fun e w'' => e = .returned (A25 k) ∧ Below w'.heap.size w' w''))
    (h3 : Hid (∀ w', Below w.heap.size w w' → Calls Tryd.prog 10 #[] w' fun e w'' => e = .returned (.bool true) ∧ Below w'.heap.size w' w''))
    (hg : Hid (g = upd f n (f n ^^^ b)))
    (heq : ∀ w, (Op.equalIn 10000 23 (A25 h) (A25 k)).run Tryd.prog w = .ok r w) (hr : (((b : Int) == 0) : Bool) = r) :
    Calls Tryd.prog 5 #[A25 f, .int .i64 a, B b] w fun e w' => e = .returned (.bool true) ∧ Below w.heap.size w w' := by
  go_enter Tryd.func5, Tryd.ntmps5
  go_upto_region 1 with fail
  refine name_world _ ?_
  intro w0 hw0
  have K1 : Hid (HasRow w0 w.heap.size (ag .u64 25 f) ∧ Below w.heap.size w w0) := by
    show _ ∧ _
    rw [hw0]
    exact ⟨HasRow.last rfl, by repeat (first | exact Below.refl _ _ | refine bel_alloc ?_ _)⟩
  have HZ : Hid (w0.heap.size = w.heap.size + 1) := by show w0.heap.size = _; rw [hw0]; simp
  clear hw0
  refine wp_region_lit ?_
  refine wpList_vload rfl 23 (.tmp 3) rfl w.heap.size rfl .u64 25 f K1.out.1 Tryd.underlying23 (by kernel_rfl) ?_
  intro v hv
  have hsz0 : w0.heap.size = w.heap.size + 1 := HZ.out
  have hsz := hv.size
  have hsc := run_storeCells_v (P := Tryd.prog) hv (g := w.heap.size + 1) 23 (by kernel_rfl) (w := w0.alloc (.cells z25 23)) (StoreTo.row (by rw [← hsz0]; exact HasRow.last rfl) (by rfl))
  clear hv
  go_upto_region 2 with fail
  refine name_world _ ?_
  intro w1 hw1
  have K2 : Hid (HasRow w1 w.heap.size (ag .u64 25 f) ∧ HasRow w1 (w.heap.size + 1) (ag .u64 25 f) ∧ Below w.heap.size w w1) := by
    show _ ∧ _
    rw [hw1]
    exact ⟨(HasRow.old K1.out.1).set_other _ (by omega), HasRow.set_same (c := z25) (by rw [← hsz0]; exact HasRow.last rfl) _, below_setRow (bel_alloc K1.out.2 _) (by omega) _⟩
  clear hw1 hsc hsz hsz0 HZ K1
  have q1 := HasRow.at K2.out.2.1 hn.out
  have q2 := HasRow.frozen K2.out.2.1 n
  go_upto_region 3 with fail
  rw [hx.out]
  refine name_world _ ?_
  intro w2 hw2
  have K3 : Hid (HasRow w2 w.heap.size (ag .u64 25 f) ∧ HasRow w2 (w.heap.size + 1) (ag .u64 25 g) ∧ Below w.heap.size w w2) := by
    show _ ∧ _
    rw [hw2, HasRow.setCell K2.out.2.1, hg.out, ← ag_set]
    exact ⟨K2.out.1.set_other _ (by omega), K2.out.2.1.set_same _, below_setRow K2.out.2.2 (by omega) _⟩
  clear hw2 q1 q2 K2
  have g1 : ∀ d os, Below w.heap.size w (Sort.grow (redrawn w2 d) os) := fun d os => K3.out.2.2.trans ((below_regrown w2 d os).mono K3.out.2.2.size)
  have G1 : Hid _ := g1
  clear g1
  refine wp_region_quiet_below (by kernel_rfl) (by kernel_rfl) ?_
  refine wpQuiet_rload rfl 23 (.tmp 3) rfl w.heap.size rfl .u64 25 f K3.out.1 Tryd.underlying23 (by kernel_rfl) ?_
  simp only [Act.put, List.setIfInBounds_toArray, List.set_cons_succ, List.set_cons_zero]
  go_big_quiet_step ((exact Calls.regrown_of (h1.out _ (G1.out _ _))))
  refine wpQuiet_rload rfl 23 (.tmp 7) rfl (w.heap.size + 1) rfl .u64 25 g K3.out.2.1 Tryd.underlying23 (by kernel_rfl) ?_
  simp only [Act.put, List.setIfInBounds_toArray, List.set_cons_succ, List.set_cons_zero]
  go_big_quiet_step ((exact Calls.regrown_of (h2.out _ (G1.out _ _))))
  repeat (go_big_quiet_step (fail))
  go_big_quiet_step ((exact Calls.regrown_of (h3.out _ (G1.out _ _))))
  repeat (go_big_quiet_step (fail))
  refine wpQuiet_nil ?_
  intro w5 hw'
  have hb : Below w2.heap.size w2 w5 := by obtain ⟨p, rfl⟩ := hw'; exact below_regrown _ _ _
  clear hw'
  have HB : Hid (Below w.heap.size w w5) := K3.out.2.2.trans (hb.mono K3.out.2.2.size)
  clear hb
  go_wp2
  go_ret
  exact ⟨rfl, HB.out⟩
theorem unlike_walk (f : Nat → Nat) (hf : P25 f) (a : Int) (b : Nat) (hb : b < M) (w : World) (ht : Tabs w ki) : Calls Tryd.prog 5 #[A25 f, .int .i64 a, B b] w fun e w' => e = .returned (.bool true) ∧ Below w.heap.size w w' := by
  have hu : ∃ u : Nat, IntKind.u64.wrap a = (u : Int) := ⟨(IntKind.u64.wrap a).toNat, by rw [IntKind.wrap_u64]; omega⟩
  obtain ⟨u, hu⟩ := hu
  have hn : u % 25 < 25 := Nat.mod_lt _ (by decide)
  have hfn := hf _ hn
  have hg : P25 (upd f (u % 25) (f (u % 25) ^^^ b)) := fun i hi => by
    rw [upd_at]; split
    · exact xor_lt hfn hb
    · exact hf i hi
  refine unlike_gen f _ _ _ a b (u % 25) _ w hn (by rw [hu, Int.tmod_eq_emod_of_nonneg (by omega)]; unfold wrap64; omega) (by omega) (bits_xor _ _ hfn hb)
    (fun w' hb => permute_any f hf w' (ht.below hb)) (fun w' hb => permute_any _ hg w' (ht.below hb)) (fun w' hb => awake_any w' (ht.below hb)) rfl
    (fun w => run_eq25 _ _ w) ?_
  rw [Bool.eq_iff_iff]
  simp only [List.all_eq_true, List.mem_range, beq_iff_eq]
  constructor
  · intro h0 i hi
    have h0 : b = 0 := by omega
    subst h0
    congr 1
    · congr 1
      funext j
      rw [upd_at]
      split
      · next e => rw [e, Nat.xor_zero]
      · rfl
  · intro h
    have e := prm_inj hf hg 24 (Nat.le_refl _) h _ hn
    rw [upd_at, if_pos rfl] at e
    have e2 := congrArg (fun v => f (u % 25) ^^^ v) e
    simp only [← Nat.xor_assoc, Nat.xor_self, Nat.zero_xor] at e2
    rw [← e2]
    rfl
end Go.Proofs.YthpjdnapoafkgaaDoor
