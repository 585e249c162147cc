/- Raw walk of the program's product by the prime, over letters. -/
import Derived.Test.YtpdoonofipcbeaaDoorXsAy
import Derived.Test.YtpdoonofipcbeaaDoorXsQc
import Derived.WalkSmall
import Derived.Deep.Cut
import Derived.Deep.Light
namespace Go.Proofs.YtpdoonofipcbeaaDoor
open Go.RowKit Go.Sort
set_option linter.unusedVariables false
set_option maxRecDepth 100000 in
set_option maxHeartbeats 4000000 in
theorem product_raw (a0 a1 a2 a3 b0 b1 b2 b3 : Nat) {h_0 l_1 h_2 l_3 h_4 l_5 h_6 l_7 h_8 l_9 h_10 l_11 h_12 l_13 h_14 l_15 h_16 l_17 h_18 l_19 h_20 l_21 h_22 l_23 h_24 l_25 h_26 l_27 h_28 l_29 h_30 l_31 q_32 q_33 q_34 q_35 : Nat}
    (c1 : Does 85 #[(B a0), (B b0), (.int .u64 0), (.int .u64 0)] (.tuple #[(B h_0), (B l_1)]))
    (c2 : Does 85 #[(B a0), (B b1), (.int .u64 0), (B h_0)] (.tuple #[(B h_2), (B l_3)]))
    (c3 : Does 85 #[(B a0), (B b2), (.int .u64 0), (B h_2)] (.tuple #[(B h_4), (B l_5)]))
    (c4 : Does 85 #[(B a0), (B b3), (.int .u64 0), (B h_4)] (.tuple #[(B h_6), (B l_7)]))
    (c5 : Does 85 #[(B a1), (B b0), (B l_3), (.int .u64 0)] (.tuple #[(B h_8), (B l_9)]))
    (c6 : Does 85 #[(B a1), (B b1), (B l_5), (B h_8)] (.tuple #[(B h_10), (B l_11)]))
    (c7 : Does 85 #[(B a1), (B b2), (B l_7), (B h_10)] (.tuple #[(B h_12), (B l_13)]))
    (c8 : Does 85 #[(B a1), (B b3), (B h_6), (B h_12)] (.tuple #[(B h_14), (B l_15)]))
    (c9 : Does 85 #[(B a2), (B b0), (B l_11), (.int .u64 0)] (.tuple #[(B h_16), (B l_17)]))
    (c10 : Does 85 #[(B a2), (B b1), (B l_13), (B h_16)] (.tuple #[(B h_18), (B l_19)]))
    (c11 : Does 85 #[(B a2), (B b2), (B l_15), (B h_18)] (.tuple #[(B h_20), (B l_21)]))
    (c12 : Does 85 #[(B a2), (B b3), (B h_14), (B h_20)] (.tuple #[(B h_22), (B l_23)]))
    (c13 : Does 85 #[(B a3), (B b0), (B l_19), (.int .u64 0)] (.tuple #[(B h_24), (B l_25)]))
    (c14 : Does 85 #[(B a3), (B b1), (B l_21), (B h_24)] (.tuple #[(B h_26), (B l_27)]))
    (c15 : Does 85 #[(B a3), (B b2), (B l_23), (B h_26)] (.tuple #[(B h_28), (B l_29)]))
    (c16 : Does 85 #[(B a3), (B b3), (B h_22), (B h_28)] (.tuple #[(B h_30), (B l_31)]))
    (c17 : Does 86 #[(.agg #[B l_27, B l_29, B l_31, B h_30]), (.agg #[B l_1, B l_9, B l_17, B l_25])] (.agg #[B q_32, B q_33, B q_34, B q_35]))
    (w : World) : Calls Tryd.prog 67 #[(.agg #[B a0, B a1, B a2, B a3]), (.agg #[B b0, B b1, B b2, B b3])] w fun e w' => e = .returned (.agg #[B q_32, B q_33, B q_34, B q_35]) ∧ Below w.heap.size w w' := by
  go_enter Tryd.func67, Tryd.ntmps67
  go_upto_region 3 with fail
  refine name_world _ ?_
  intro wF hF0
  have RR : Hid (RB w wF [(w.heap.size + 1 + 1 + 1, #[.int .u64 0, .int .u64 0, .int .u64 0, .int .u64 0]), (w.heap.size + 1 + 1, Zr), (w.heap.size + 1, #[B b0, B b1, B b2, B b3]), (w.heap.size, #[B a0, B a1, B a2, B a3])]) := by rw [hF0]; exact (rbN (rbN (rbN (rbN (rb0 w) (by simp)) (by simp)) (by simp)) (by simp))
  clear hF0
  obtain ⟨q3, q2, q1, q0, qT⟩ := RR.out.r.lts
  refine wp_region_told (by kernel_rfl) (by kernel_rfl) (by kernel_rfl) [(w.heap.size, #[B a0, B a1, B a2, B a3]), (w.heap.size + 1, #[B b0, B b1, B b2, B b3]), (w.heap.size + 1 + 1, Zr), (w.heap.size + 1 + 1 + 1, #[.int .u64 0, .int .u64 0, .int .u64 0, .int .u64 0])]
    [sV (.agg #[B a0, B a1, B a2, B a3]),
     sV (.int .i64 0)]
    (by kernel_rfl) RR.out.b (RowsAt.cons (RR.out.at 3 rfl) (RowsAt.cons (RR.out.at 2 rfl) (RowsAt.cons (RR.out.at 1 rfl) (RowsAt.cons (RR.out.at 0 rfl) RowsAt.nil)))) (StOk.of [] rfl StM.nil)
    (Obs.val (fun a' w' E => ob_loada 24 (.tmp 2) rfl (E.old 2 (by kernel_rfl)) (E.row (g := w.heap.size) (c := #[B a0, B a1, B a2, B a3]) 0 rfl) Tryd.underlying24 rfl (by kernel_rfl) rfl)
    (Obs.val (fun a' w' E => ob_move (.const (.int .i64 0)) rfl (evc a' (.int .i64 0)))
    Obs.nil)) ?_
  intro bs w1 aZ haZ F
  have eZ : aZ = ({ tmps := #[(.agg #[B a0, B a1, B a2, B a3]), (.agg #[B b0, B b1, B b2, B b3]), (PT w.heap.size), (PT (w.heap.size + 1)), (PT (w.heap.size + 1 + 1)), (PT (w.heap.size + 1 + 1 + 1)), (.int .u64 0), (.int .u64 0), (.int .u64 0), (.int .u64 0), undef, undef, undef, (.agg #[B a0, B a1, B a2, B a3]), (.int .i64 0), undef, undef, undef, undef, undef, undef, undef, undef, undef, undef, undef, undef, undef, undef, undef, undef, undef, undef, undef, undef, undef, undef, undef, undef, undef, undef, undef, undef, undef, undef, undef, undef, undef, undef, undef, undef, undef, undef, undef, undef, undef, undef, undef, undef, undef, undef, undef, undef], defers := [] } : Act) := haZ.trans (by kernel_rfl)
  subst eZ
  clear haZ
  replace RR : Hid (RB w w1 [(w.heap.size + 1 + 1 + 1, #[.int .u64 0, .int .u64 0, .int .u64 0, .int .u64 0]), (w.heap.size + 1 + 1, Zr), (w.heap.size + 1, #[B b0, B b1, B b2, B b3]), (w.heap.size, #[B a0, B a1, B a2, B a3])]) := ⟨F.bw, (RowsAt.cons (F.row 3 rfl) (RowsAt.cons (F.row 2 rfl) (RowsAt.cons (F.row 1 rfl) (RowsAt.cons (F.row 0 rfl) RowsAt.nil))))⟩
  clear F qT q0 q1 q2 q3
  clear wF
  have x0 := fun w => id24_0 a0 a1 a2 a3 w
  have x1 := fun w => id24_1 a0 a1 a2 a3 w
  have x2 := fun w => id24_2 a0 a1 a2 a3 w
  have x3 := fun w => id24_3 a0 a1 a2 a3 w
  go_wp2
  refine wp_loop_rounds 5 ?_
  rw [rounds_succ]
  go_upto_region 7 with fail
  obtain ⟨q3, q2, q1, q0, qT⟩ := RR.out.r.lts
  refine wp_region_told (by kernel_rfl) (by kernel_rfl) (by kernel_rfl) [(w.heap.size, #[B a0, B a1, B a2, B a3]), (w.heap.size + 1, #[B b0, B b1, B b2, B b3]), (w.heap.size + 1 + 1, Zr)]
    [sV (.int .i64 0),
     sV (B a0),
     sV (PT (w.heap.size + 1)),
     sV (B b0),
     sV (.int .u64 0),
     sV (.tuple #[(B h_0), (B l_1)]),
     sV (.tuple #[(B h_0), (B l_1)]),
     sV (B h_0),
     sV (B l_1),
     sV (B h_0),
     sV (PT (w.heap.size + 1 + 1 + 1)),
     sK (w.heap.size + 1 + 1 + 1) #[.int .u64 0, .int .u64 0, .int .u64 0, .int .u64 0] #[B l_1, .int .u64 0, .int .u64 0, .int .u64 0]]
    (by kernel_rfl) RR.out.b (RowsAt.cons (RR.out.at 3 rfl) (RowsAt.cons (RR.out.at 2 rfl) (RowsAt.cons (RR.out.at 1 rfl) RowsAt.nil))) (StOk.of [(w.heap.size + 1 + 1 + 1, #[.int .u64 0, .int .u64 0, .int .u64 0, .int .u64 0])] rfl (StM.cons (RR.out.at 0 rfl) (by omega) (Apart.cons (by omega) (Apart.cons (by omega) (Apart.cons (by omega) Apart.nil))) Apart.nil StM.nil))
    (Obs.val (fun a' w' E => ob_move (.tmp 10) rfl (E.old 10 (by kernel_rfl)))
    (Obs.val (fun a' w' E => ob_move (.tmp 11) rfl (E.old 11 (by kernel_rfl)))
    (Obs.val (fun a' w' E => ob_indexAddr 24 (.tmp 3) (.const (.int .i64 0)) rfl (E.old 3 (by kernel_rfl)) (evc a' (.int .i64 0)) (ix24_0 _ _ w'))
    (Obs.val (fun a' w' E => ob_load1 22 (.tmp 21) rfl (E.new (v := (PT (w.heap.size + 1))) 21 2 (by kernel_rfl) rfl) (E.row (g := w.heap.size + 1) (c := #[B b0, B b1, B b2, B b3]) 1 rfl) Tryd.underlying22 rfl rfl)
    (Obs.val (fun a' w' E => ob_move (.tmp 6) rfl (E.old 6 (by kernel_rfl)))
    (Obs.val (fun a' w' E => ob_fcall 85 _ _ rfl (am4 (E.new (v := (B a0)) 20 1 (by kernel_rfl) rfl) (E.new (v := (B b0)) 22 3 (by kernel_rfl) rfl) (E.new (v := (.int .u64 0)) 23 4 (by kernel_rfl) rfl) (evc a' (.int .u64 0))) (fc85 _ _) (c1.out w'))
    (Obs.val (fun a' w' E => ob_move (.tmp 24) rfl (E.new (v := (.tuple #[(B h_0), (B l_1)])) 24 5 (by kernel_rfl) rfl))
    (Obs.val (fun a' w' E => ob_extract (.tmp 18) 0 rfl (E.new (v := (.tuple #[(B h_0), (B l_1)])) 18 6 (by kernel_rfl) rfl) rfl)
    (Obs.val (fun a' w' E => ob_extract (.tmp 18) 1 rfl (E.new (v := (.tuple #[(B h_0), (B l_1)])) 18 6 (by kernel_rfl) rfl) rfl)
    (Obs.val (fun a' w' E => ob_assign (.tmp 25) rfl (E.new (v := (B h_0)) 25 7 (by kernel_rfl) rfl))
    (Obs.val (fun a' w' E => ob_indexAddr 24 (.tmp 5) (.tmp 19) rfl (E.old 5 (by kernel_rfl)) (E.new (v := (.int .i64 0)) 19 0 (by kernel_rfl) rfl) (ix24_0 _ _ w'))
    (Obs.stk (fun a' w' E hr => ob_storea 22 (.tmp 27) (.tmp 26) rfl (E.new (v := (PT (w.heap.size + 1 + 1 + 1))) 27 10 (by kernel_rfl) rfl) (E.new (v := (B l_1)) 26 8 (by kernel_rfl) rfl) rfl hr (by kernel_rfl) (Nat.le_of_ble_eq_true rfl) (by kernel_rfl) rfl)
    Obs.nil)))))))))))) ?_
  intro bs w2 aZ haZ F
  have eZ : aZ = ({ tmps := #[(.agg #[B a0, B a1, B a2, B a3]), (.agg #[B b0, B b1, B b2, B b3]), (PT w.heap.size), (PT (w.heap.size + 1)), (PT (w.heap.size + 1 + 1)), (PT (w.heap.size + 1 + 1 + 1)), (.int .u64 0), (.int .u64 0), (.int .u64 0), (.int .u64 0), (.int .i64 0), (B a0), (B h_0), (.agg #[B a0, B a1, B a2, B a3]), (.int .i64 0), (.bool true), (.int .i64 0), (B a0), (.tuple #[(B h_0), (B l_1)]), (.int .i64 0), (B a0), (PT (w.heap.size + 1)), (B b0), (.int .u64 0), (.tuple #[(B h_0), (B l_1)]), (B h_0), (B l_1), (PT (w.heap.size + 1 + 1 + 1)), undef, undef, undef, undef, undef, undef, undef, undef, undef, undef, undef, undef, undef, undef, undef, undef, undef, undef, undef, undef, undef, undef, undef, undef, undef, undef, undef, undef, undef, undef, undef, undef, undef, undef, undef], defers := [] } : Act) := haZ.trans (by kernel_rfl)
  subst eZ
  clear haZ
  replace RR : Hid (RB w w2 [(w.heap.size + 1 + 1 + 1, #[B l_1, .int .u64 0, .int .u64 0, .int .u64 0]), (w.heap.size + 1 + 1, Zr), (w.heap.size + 1, #[B b0, B b1, B b2, B b3]), (w.heap.size, #[B a0, B a1, B a2, B a3])]) := ⟨F.bw, (RowsAt.cons (F.sk 11 rfl) (RowsAt.cons (F.row 2 rfl) (RowsAt.cons (F.row 1 rfl) (RowsAt.cons (F.row 0 rfl) RowsAt.nil))))⟩
  clear F qT q0 q1 q2 q3
  go_upto_region 8 with fail
  obtain ⟨q3, q2, q1, q0, qT⟩ := RR.out.r.lts
  refine wp_region_told (by kernel_rfl) (by kernel_rfl) (by kernel_rfl) [(w.heap.size, #[B a0, B a1, B a2, B a3]), (w.heap.size + 1, #[B b0, B b1, B b2, B b3]), (w.heap.size + 1 + 1, Zr), (w.heap.size + 1 + 1 + 1, #[B l_1, .int .u64 0, .int .u64 0, .int .u64 0])]
    [sV (B a0),
     sV (PO (w.heap.size + 1) 1),
     sV (B b1),
     sV (.int .u64 0),
     sV (B h_0),
     sV (.tuple #[(B h_2), (B l_3)]),
     sV (.tuple #[(B h_2), (B l_3)]),
     sV (B h_2),
     sV (B l_3),
     sV (B h_2),
     sV (B l_3)]
    (by kernel_rfl) RR.out.b (RowsAt.cons (RR.out.at 3 rfl) (RowsAt.cons (RR.out.at 2 rfl) (RowsAt.cons (RR.out.at 1 rfl) (RowsAt.cons (RR.out.at 0 rfl) RowsAt.nil)))) (StOk.of [] rfl StM.nil)
    (Obs.val (fun a' w' E => ob_move (.tmp 11) rfl (E.old 11 (by kernel_rfl)))
    (Obs.val (fun a' w' E => ob_indexAddr 24 (.tmp 3) (.const (.int .i64 1)) rfl (E.old 3 (by kernel_rfl)) (evc a' (.int .i64 1)) (ix24_1 _ _ w'))
    (Obs.val (fun a' w' E => ob_load1 22 (.tmp 30) rfl (E.new (v := (PO (w.heap.size + 1) 1)) 30 1 (by kernel_rfl) rfl) (E.row (g := w.heap.size + 1) (c := #[B b0, B b1, B b2, B b3]) 1 rfl) Tryd.underlying22 rfl rfl)
    (Obs.val (fun a' w' E => ob_move (.tmp 7) rfl (E.old 7 (by kernel_rfl)))
    (Obs.val (fun a' w' E => ob_move (.tmp 12) rfl (E.olds 12 9 (by kernel_rfl) (by kernel_rfl)))
    (Obs.val (fun a' w' E => ob_fcall 85 _ _ rfl (am4 (E.new (v := (B a0)) 29 0 (by kernel_rfl) rfl) (E.new (v := (B b1)) 31 2 (by kernel_rfl) rfl) (E.new (v := (.int .u64 0)) 32 3 (by kernel_rfl) rfl) (E.new (v := (B h_0)) 33 4 (by kernel_rfl) rfl)) (fc85 _ _) (c2.out w'))
    (Obs.val (fun a' w' E => ob_move (.tmp 34) rfl (E.new (v := (.tuple #[(B h_2), (B l_3)])) 34 5 (by kernel_rfl) rfl))
    (Obs.val (fun a' w' E => ob_extract (.tmp 28) 0 rfl (E.new (v := (.tuple #[(B h_2), (B l_3)])) 28 6 (by kernel_rfl) rfl) rfl)
    (Obs.val (fun a' w' E => ob_extract (.tmp 28) 1 rfl (E.new (v := (.tuple #[(B h_2), (B l_3)])) 28 6 (by kernel_rfl) rfl) rfl)
    (Obs.val (fun a' w' E => ob_assign (.tmp 35) rfl (E.new (v := (B h_2)) 35 7 (by kernel_rfl) rfl))
    (Obs.val (fun a' w' E => ob_assign (.tmp 36) rfl (E.new (v := (B l_3)) 36 8 (by kernel_rfl) rfl))
    Obs.nil))))))))))) ?_
  intro bs w3 aZ haZ F
  have eZ : aZ = ({ tmps := #[(.agg #[B a0, B a1, B a2, B a3]), (.agg #[B b0, B b1, B b2, B b3]), (PT w.heap.size), (PT (w.heap.size + 1)), (PT (w.heap.size + 1 + 1)), (PT (w.heap.size + 1 + 1 + 1)), (B l_3), (.int .u64 0), (.int .u64 0), (.int .u64 0), (.int .i64 0), (B a0), (B h_2), (.agg #[B a0, B a1, B a2, B a3]), (.int .i64 0), (.bool true), (.int .i64 0), (B a0), (.tuple #[(B h_0), (B l_1)]), (.int .i64 0), (B a0), (PT (w.heap.size + 1)), (B b0), (.int .u64 0), (.tuple #[(B h_0), (B l_1)]), (B h_0), (B l_1), (PT (w.heap.size + 1 + 1 + 1)), (.tuple #[(B h_2), (B l_3)]), (B a0), (PO (w.heap.size + 1) 1), (B b1), (.int .u64 0), (B h_0), (.tuple #[(B h_2), (B l_3)]), (B h_2), (B l_3), undef, undef, undef, undef, undef, undef, undef, undef, undef, undef, undef, undef, undef, undef, undef, undef, undef, undef, undef, undef, undef, undef, undef, undef, undef, undef], defers := [] } : Act) := haZ.trans (by kernel_rfl)
  subst eZ
  clear haZ
  replace RR : Hid (RB w w3 [(w.heap.size + 1 + 1 + 1, #[B l_1, .int .u64 0, .int .u64 0, .int .u64 0]), (w.heap.size + 1 + 1, Zr), (w.heap.size + 1, #[B b0, B b1, B b2, B b3]), (w.heap.size, #[B a0, B a1, B a2, B a3])]) := ⟨F.bw, (RowsAt.cons (F.row 3 rfl) (RowsAt.cons (F.row 2 rfl) (RowsAt.cons (F.row 1 rfl) (RowsAt.cons (F.row 0 rfl) RowsAt.nil))))⟩
  clear F qT q0 q1 q2 q3
  go_upto_region 9 with fail
  obtain ⟨q3, q2, q1, q0, qT⟩ := RR.out.r.lts
  refine wp_region_told (by kernel_rfl) (by kernel_rfl) (by kernel_rfl) [(w.heap.size, #[B a0, B a1, B a2, B a3]), (w.heap.size + 1, #[B b0, B b1, B b2, B b3]), (w.heap.size + 1 + 1, Zr), (w.heap.size + 1 + 1 + 1, #[B l_1, .int .u64 0, .int .u64 0, .int .u64 0])]
    [sV (B a0),
     sV (PO (w.heap.size + 1) 2),
     sV (B b2),
     sV (.int .u64 0),
     sV (B h_2),
     sV (.tuple #[(B h_4), (B l_5)]),
     sV (.tuple #[(B h_4), (B l_5)]),
     sV (B h_4),
     sV (B l_5),
     sV (B h_4),
     sV (B l_5)]
    (by kernel_rfl) RR.out.b (RowsAt.cons (RR.out.at 3 rfl) (RowsAt.cons (RR.out.at 2 rfl) (RowsAt.cons (RR.out.at 1 rfl) (RowsAt.cons (RR.out.at 0 rfl) RowsAt.nil)))) (StOk.of [] rfl StM.nil)
    (Obs.val (fun a' w' E => ob_move (.tmp 11) rfl (E.old 11 (by kernel_rfl)))
    (Obs.val (fun a' w' E => ob_indexAddr 24 (.tmp 3) (.const (.int .i64 2)) rfl (E.old 3 (by kernel_rfl)) (evc a' (.int .i64 2)) (ix24_2 _ _ w'))
    (Obs.val (fun a' w' E => ob_load1 22 (.tmp 39) rfl (E.new (v := (PO (w.heap.size + 1) 2)) 39 1 (by kernel_rfl) rfl) (E.row (g := w.heap.size + 1) (c := #[B b0, B b1, B b2, B b3]) 1 rfl) Tryd.underlying22 rfl rfl)
    (Obs.val (fun a' w' E => ob_move (.tmp 8) rfl (E.old 8 (by kernel_rfl)))
    (Obs.val (fun a' w' E => ob_move (.tmp 12) rfl (E.olds 12 9 (by kernel_rfl) (by kernel_rfl)))
    (Obs.val (fun a' w' E => ob_fcall 85 _ _ rfl (am4 (E.new (v := (B a0)) 38 0 (by kernel_rfl) rfl) (E.new (v := (B b2)) 40 2 (by kernel_rfl) rfl) (E.new (v := (.int .u64 0)) 41 3 (by kernel_rfl) rfl) (E.new (v := (B h_2)) 42 4 (by kernel_rfl) rfl)) (fc85 _ _) (c3.out w'))
    (Obs.val (fun a' w' E => ob_move (.tmp 43) rfl (E.new (v := (.tuple #[(B h_4), (B l_5)])) 43 5 (by kernel_rfl) rfl))
    (Obs.val (fun a' w' E => ob_extract (.tmp 37) 0 rfl (E.new (v := (.tuple #[(B h_4), (B l_5)])) 37 6 (by kernel_rfl) rfl) rfl)
    (Obs.val (fun a' w' E => ob_extract (.tmp 37) 1 rfl (E.new (v := (.tuple #[(B h_4), (B l_5)])) 37 6 (by kernel_rfl) rfl) rfl)
    (Obs.val (fun a' w' E => ob_assign (.tmp 44) rfl (E.new (v := (B h_4)) 44 7 (by kernel_rfl) rfl))
    (Obs.val (fun a' w' E => ob_assign (.tmp 45) rfl (E.new (v := (B l_5)) 45 8 (by kernel_rfl) rfl))
    Obs.nil))))))))))) ?_
  intro bs w4 aZ haZ F
  have eZ : aZ = ({ tmps := #[(.agg #[B a0, B a1, B a2, B a3]), (.agg #[B b0, B b1, B b2, B b3]), (PT w.heap.size), (PT (w.heap.size + 1)), (PT (w.heap.size + 1 + 1)), (PT (w.heap.size + 1 + 1 + 1)), (B l_3), (B l_5), (.int .u64 0), (.int .u64 0), (.int .i64 0), (B a0), (B h_4), (.agg #[B a0, B a1, B a2, B a3]), (.int .i64 0), (.bool true), (.int .i64 0), (B a0), (.tuple #[(B h_0), (B l_1)]), (.int .i64 0), (B a0), (PT (w.heap.size + 1)), (B b0), (.int .u64 0), (.tuple #[(B h_0), (B l_1)]), (B h_0), (B l_1), (PT (w.heap.size + 1 + 1 + 1)), (.tuple #[(B h_2), (B l_3)]), (B a0), (PO (w.heap.size + 1) 1), (B b1), (.int .u64 0), (B h_0), (.tuple #[(B h_2), (B l_3)]), (B h_2), (B l_3), (.tuple #[(B h_4), (B l_5)]), (B a0), (PO (w.heap.size + 1) 2), (B b2), (.int .u64 0), (B h_2), (.tuple #[(B h_4), (B l_5)]), (B h_4), (B l_5), undef, undef, undef, undef, undef, undef, undef, undef, undef, undef, undef, undef, undef, undef, undef, undef, undef], defers := [] } : Act) := haZ.trans (by kernel_rfl)
  subst eZ
  clear haZ
  replace RR : Hid (RB w w4 [(w.heap.size + 1 + 1 + 1, #[B l_1, .int .u64 0, .int .u64 0, .int .u64 0]), (w.heap.size + 1 + 1, Zr), (w.heap.size + 1, #[B b0, B b1, B b2, B b3]), (w.heap.size, #[B a0, B a1, B a2, B a3])]) := ⟨F.bw, (RowsAt.cons (F.row 3 rfl) (RowsAt.cons (F.row 2 rfl) (RowsAt.cons (F.row 1 rfl) (RowsAt.cons (F.row 0 rfl) RowsAt.nil))))⟩
  clear F qT q0 q1 q2 q3
  go_upto_region 10 with fail
  obtain ⟨q3, q2, q1, q0, qT⟩ := RR.out.r.lts
  refine wp_region_told (by kernel_rfl) (by kernel_rfl) (by kernel_rfl) [(w.heap.size, #[B a0, B a1, B a2, B a3]), (w.heap.size + 1, #[B b0, B b1, B b2, B b3]), (w.heap.size + 1 + 1, Zr), (w.heap.size + 1 + 1 + 1, #[B l_1, .int .u64 0, .int .u64 0, .int .u64 0])]
    [sV (B a0),
     sV (PO (w.heap.size + 1) 3),
     sV (B b3),
     sV (.int .u64 0),
     sV (B h_4),
     sV (.tuple #[(B h_6), (B l_7)]),
     sV (.tuple #[(B h_6), (B l_7)]),
     sV (B h_6),
     sV (B l_7),
     sV (B h_6),
     sV (B l_7)]
    (by kernel_rfl) RR.out.b (RowsAt.cons (RR.out.at 3 rfl) (RowsAt.cons (RR.out.at 2 rfl) (RowsAt.cons (RR.out.at 1 rfl) (RowsAt.cons (RR.out.at 0 rfl) RowsAt.nil)))) (StOk.of [] rfl StM.nil)
    (Obs.val (fun a' w' E => ob_move (.tmp 11) rfl (E.old 11 (by kernel_rfl)))
    (Obs.val (fun a' w' E => ob_indexAddr 24 (.tmp 3) (.const (.int .i64 3)) rfl (E.old 3 (by kernel_rfl)) (evc a' (.int .i64 3)) (ix24_3 _ _ w'))
    (Obs.val (fun a' w' E => ob_load1 22 (.tmp 48) rfl (E.new (v := (PO (w.heap.size + 1) 3)) 48 1 (by kernel_rfl) rfl) (E.row (g := w.heap.size + 1) (c := #[B b0, B b1, B b2, B b3]) 1 rfl) Tryd.underlying22 rfl rfl)
    (Obs.val (fun a' w' E => ob_move (.tmp 9) rfl (E.olds 9 9 (by kernel_rfl) (by kernel_rfl)))
    (Obs.val (fun a' w' E => ob_move (.tmp 12) rfl (E.old 12 (by kernel_rfl)))
    (Obs.val (fun a' w' E => ob_fcall 85 _ _ rfl (am4 (E.new (v := (B a0)) 47 0 (by kernel_rfl) rfl) (E.new (v := (B b3)) 49 2 (by kernel_rfl) rfl) (E.new (v := (.int .u64 0)) 50 3 (by kernel_rfl) rfl) (E.new (v := (B h_4)) 51 4 (by kernel_rfl) rfl)) (fc85 _ _) (c4.out w'))
    (Obs.val (fun a' w' E => ob_move (.tmp 52) rfl (E.new (v := (.tuple #[(B h_6), (B l_7)])) 52 5 (by kernel_rfl) rfl))
    (Obs.val (fun a' w' E => ob_extract (.tmp 46) 0 rfl (E.new (v := (.tuple #[(B h_6), (B l_7)])) 46 6 (by kernel_rfl) rfl) rfl)
    (Obs.val (fun a' w' E => ob_extract (.tmp 46) 1 rfl (E.new (v := (.tuple #[(B h_6), (B l_7)])) 46 6 (by kernel_rfl) rfl) rfl)
    (Obs.val (fun a' w' E => ob_assign (.tmp 53) rfl (E.new (v := (B h_6)) 53 7 (by kernel_rfl) rfl))
    (Obs.val (fun a' w' E => ob_assign (.tmp 54) rfl (E.new (v := (B l_7)) 54 8 (by kernel_rfl) rfl))
    Obs.nil))))))))))) ?_
  intro bs w5 aZ haZ F
  have eZ : aZ = ({ tmps := #[(.agg #[B a0, B a1, B a2, B a3]), (.agg #[B b0, B b1, B b2, B b3]), (PT w.heap.size), (PT (w.heap.size + 1)), (PT (w.heap.size + 1 + 1)), (PT (w.heap.size + 1 + 1 + 1)), (B l_3), (B l_5), (B l_7), (B h_6), (.int .i64 0), (B a0), (B h_4), (.agg #[B a0, B a1, B a2, B a3]), (.int .i64 0), (.bool true), (.int .i64 0), (B a0), (.tuple #[(B h_0), (B l_1)]), (.int .i64 0), (B a0), (PT (w.heap.size + 1)), (B b0), (.int .u64 0), (.tuple #[(B h_0), (B l_1)]), (B h_0), (B l_1), (PT (w.heap.size + 1 + 1 + 1)), (.tuple #[(B h_2), (B l_3)]), (B a0), (PO (w.heap.size + 1) 1), (B b1), (.int .u64 0), (B h_0), (.tuple #[(B h_2), (B l_3)]), (B h_2), (B l_3), (.tuple #[(B h_4), (B l_5)]), (B a0), (PO (w.heap.size + 1) 2), (B b2), (.int .u64 0), (B h_2), (.tuple #[(B h_4), (B l_5)]), (B h_4), (B l_5), (.tuple #[(B h_6), (B l_7)]), (B a0), (PO (w.heap.size + 1) 3), (B b3), (.int .u64 0), (B h_4), (.tuple #[(B h_6), (B l_7)]), (B h_6), (B l_7), undef, undef, undef, undef, undef, undef, undef, undef], defers := [] } : Act) := haZ.trans (by kernel_rfl)
  subst eZ
  clear haZ
  replace RR : Hid (RB w w5 [(w.heap.size + 1 + 1 + 1, #[B l_1, .int .u64 0, .int .u64 0, .int .u64 0]), (w.heap.size + 1 + 1, Zr), (w.heap.size + 1, #[B b0, B b1, B b2, B b3]), (w.heap.size, #[B a0, B a1, B a2, B a3])]) := ⟨F.bw, (RowsAt.cons (F.row 3 rfl) (RowsAt.cons (F.row 2 rfl) (RowsAt.cons (F.row 1 rfl) (RowsAt.cons (F.row 0 rfl) RowsAt.nil))))⟩
  clear F qT q0 q1 q2 q3
  go_wp2
  rw [rounds_succ]
  go_upto_region 7 with fail
  obtain ⟨q3, q2, q1, q0, qT⟩ := RR.out.r.lts
  refine wp_region_told (by kernel_rfl) (by kernel_rfl) (by kernel_rfl) [(w.heap.size, #[B a0, B a1, B a2, B a3]), (w.heap.size + 1, #[B b0, B b1, B b2, B b3]), (w.heap.size + 1 + 1, Zr)]
    [sV (.int .i64 1),
     sV (B a1),
     sV (PT (w.heap.size + 1)),
     sV (B b0),
     sV (B l_3),
     sV (.tuple #[(B h_8), (B l_9)]),
     sV (.tuple #[(B h_8), (B l_9)]),
     sV (B h_8),
     sV (B l_9),
     sV (B h_8),
     sV (PO (w.heap.size + 1 + 1 + 1) 1),
     sK (w.heap.size + 1 + 1 + 1) #[B l_1, .int .u64 0, .int .u64 0, .int .u64 0] #[B l_1, B l_9, .int .u64 0, .int .u64 0]]
    (by kernel_rfl) RR.out.b (RowsAt.cons (RR.out.at 3 rfl) (RowsAt.cons (RR.out.at 2 rfl) (RowsAt.cons (RR.out.at 1 rfl) RowsAt.nil))) (StOk.of [(w.heap.size + 1 + 1 + 1, #[B l_1, .int .u64 0, .int .u64 0, .int .u64 0])] rfl (StM.cons (RR.out.at 0 rfl) (by omega) (Apart.cons (by omega) (Apart.cons (by omega) (Apart.cons (by omega) Apart.nil))) Apart.nil StM.nil))
    (Obs.val (fun a' w' E => ob_move (.tmp 10) rfl (E.old 10 (by kernel_rfl)))
    (Obs.val (fun a' w' E => ob_move (.tmp 11) rfl (E.old 11 (by kernel_rfl)))
    (Obs.val (fun a' w' E => ob_indexAddr 24 (.tmp 3) (.const (.int .i64 0)) rfl (E.old 3 (by kernel_rfl)) (evc a' (.int .i64 0)) (ix24_0 _ _ w'))
    (Obs.val (fun a' w' E => ob_load1 22 (.tmp 21) rfl (E.new (v := (PT (w.heap.size + 1))) 21 2 (by kernel_rfl) rfl) (E.row (g := w.heap.size + 1) (c := #[B b0, B b1, B b2, B b3]) 1 rfl) Tryd.underlying22 rfl rfl)
    (Obs.val (fun a' w' E => ob_move (.tmp 6) rfl (E.old 6 (by kernel_rfl)))
    (Obs.val (fun a' w' E => ob_fcall 85 _ _ rfl (am4 (E.new (v := (B a1)) 20 1 (by kernel_rfl) rfl) (E.new (v := (B b0)) 22 3 (by kernel_rfl) rfl) (E.new (v := (B l_3)) 23 4 (by kernel_rfl) rfl) (evc a' (.int .u64 0))) (fc85 _ _) (c5.out w'))
    (Obs.val (fun a' w' E => ob_move (.tmp 24) rfl (E.new (v := (.tuple #[(B h_8), (B l_9)])) 24 5 (by kernel_rfl) rfl))
    (Obs.val (fun a' w' E => ob_extract (.tmp 18) 0 rfl (E.new (v := (.tuple #[(B h_8), (B l_9)])) 18 6 (by kernel_rfl) rfl) rfl)
    (Obs.val (fun a' w' E => ob_extract (.tmp 18) 1 rfl (E.new (v := (.tuple #[(B h_8), (B l_9)])) 18 6 (by kernel_rfl) rfl) rfl)
    (Obs.val (fun a' w' E => ob_assign (.tmp 25) rfl (E.new (v := (B h_8)) 25 7 (by kernel_rfl) rfl))
    (Obs.val (fun a' w' E => ob_indexAddr 24 (.tmp 5) (.tmp 19) rfl (E.old 5 (by kernel_rfl)) (E.new (v := (.int .i64 1)) 19 0 (by kernel_rfl) rfl) (ix24_1 _ _ w'))
    (Obs.stk (fun a' w' E hr => ob_storea 22 (.tmp 27) (.tmp 26) rfl (E.new (v := (PO (w.heap.size + 1 + 1 + 1) 1)) 27 10 (by kernel_rfl) rfl) (E.new (v := (B l_9)) 26 8 (by kernel_rfl) rfl) rfl hr (by kernel_rfl) (Nat.le_of_ble_eq_true rfl) (by kernel_rfl) rfl)
    Obs.nil)))))))))))) ?_
  intro bs w6 aZ haZ F
  have eZ : aZ = ({ tmps := #[(.agg #[B a0, B a1, B a2, B a3]), (.agg #[B b0, B b1, B b2, B b3]), (PT w.heap.size), (PT (w.heap.size + 1)), (PT (w.heap.size + 1 + 1)), (PT (w.heap.size + 1 + 1 + 1)), (B l_3), (B l_5), (B l_7), (B h_6), (.int .i64 1), (B a1), (B h_8), (.agg #[B a0, B a1, B a2, B a3]), (.int .i64 1), (.bool true), (.int .i64 1), (B a1), (.tuple #[(B h_8), (B l_9)]), (.int .i64 1), (B a1), (PT (w.heap.size + 1)), (B b0), (B l_3), (.tuple #[(B h_8), (B l_9)]), (B h_8), (B l_9), (PO (w.heap.size + 1 + 1 + 1) 1), (.tuple #[(B h_2), (B l_3)]), (B a0), (PO (w.heap.size + 1) 1), (B b1), (.int .u64 0), (B h_0), (.tuple #[(B h_2), (B l_3)]), (B h_2), (B l_3), (.tuple #[(B h_4), (B l_5)]), (B a0), (PO (w.heap.size + 1) 2), (B b2), (.int .u64 0), (B h_2), (.tuple #[(B h_4), (B l_5)]), (B h_4), (B l_5), (.tuple #[(B h_6), (B l_7)]), (B a0), (PO (w.heap.size + 1) 3), (B b3), (.int .u64 0), (B h_4), (.tuple #[(B h_6), (B l_7)]), (B h_6), (B l_7), (.int .i64 1), undef, undef, undef, undef, undef, undef, undef], defers := [] } : Act) := haZ.trans (by kernel_rfl)
  subst eZ
  clear haZ
  replace RR : Hid (RB w w6 [(w.heap.size + 1 + 1 + 1, #[B l_1, B l_9, .int .u64 0, .int .u64 0]), (w.heap.size + 1 + 1, Zr), (w.heap.size + 1, #[B b0, B b1, B b2, B b3]), (w.heap.size, #[B a0, B a1, B a2, B a3])]) := ⟨F.bw, (RowsAt.cons (F.sk 11 rfl) (RowsAt.cons (F.row 2 rfl) (RowsAt.cons (F.row 1 rfl) (RowsAt.cons (F.row 0 rfl) RowsAt.nil))))⟩
  clear F qT q0 q1 q2 q3
  go_upto_region 8 with fail
  obtain ⟨q3, q2, q1, q0, qT⟩ := RR.out.r.lts
  refine wp_region_told (by kernel_rfl) (by kernel_rfl) (by kernel_rfl) [(w.heap.size, #[B a0, B a1, B a2, B a3]), (w.heap.size + 1, #[B b0, B b1, B b2, B b3]), (w.heap.size + 1 + 1, Zr), (w.heap.size + 1 + 1 + 1, #[B l_1, B l_9, .int .u64 0, .int .u64 0])]
    [sV (B a1),
     sV (PO (w.heap.size + 1) 1),
     sV (B b1),
     sV (B l_5),
     sV (B h_8),
     sV (.tuple #[(B h_10), (B l_11)]),
     sV (.tuple #[(B h_10), (B l_11)]),
     sV (B h_10),
     sV (B l_11),
     sV (B h_10),
     sV (B l_11)]
    (by kernel_rfl) RR.out.b (RowsAt.cons (RR.out.at 3 rfl) (RowsAt.cons (RR.out.at 2 rfl) (RowsAt.cons (RR.out.at 1 rfl) (RowsAt.cons (RR.out.at 0 rfl) RowsAt.nil)))) (StOk.of [] rfl StM.nil)
    (Obs.val (fun a' w' E => ob_move (.tmp 11) rfl (E.old 11 (by kernel_rfl)))
    (Obs.val (fun a' w' E => ob_indexAddr 24 (.tmp 3) (.const (.int .i64 1)) rfl (E.old 3 (by kernel_rfl)) (evc a' (.int .i64 1)) (ix24_1 _ _ w'))
    (Obs.val (fun a' w' E => ob_load1 22 (.tmp 30) rfl (E.new (v := (PO (w.heap.size + 1) 1)) 30 1 (by kernel_rfl) rfl) (E.row (g := w.heap.size + 1) (c := #[B b0, B b1, B b2, B b3]) 1 rfl) Tryd.underlying22 rfl rfl)
    (Obs.val (fun a' w' E => ob_move (.tmp 7) rfl (E.old 7 (by kernel_rfl)))
    (Obs.val (fun a' w' E => ob_move (.tmp 12) rfl (E.olds 12 9 (by kernel_rfl) (by kernel_rfl)))
    (Obs.val (fun a' w' E => ob_fcall 85 _ _ rfl (am4 (E.new (v := (B a1)) 29 0 (by kernel_rfl) rfl) (E.new (v := (B b1)) 31 2 (by kernel_rfl) rfl) (E.new (v := (B l_5)) 32 3 (by kernel_rfl) rfl) (E.new (v := (B h_8)) 33 4 (by kernel_rfl) rfl)) (fc85 _ _) (c6.out w'))
    (Obs.val (fun a' w' E => ob_move (.tmp 34) rfl (E.new (v := (.tuple #[(B h_10), (B l_11)])) 34 5 (by kernel_rfl) rfl))
    (Obs.val (fun a' w' E => ob_extract (.tmp 28) 0 rfl (E.new (v := (.tuple #[(B h_10), (B l_11)])) 28 6 (by kernel_rfl) rfl) rfl)
    (Obs.val (fun a' w' E => ob_extract (.tmp 28) 1 rfl (E.new (v := (.tuple #[(B h_10), (B l_11)])) 28 6 (by kernel_rfl) rfl) rfl)
    (Obs.val (fun a' w' E => ob_assign (.tmp 35) rfl (E.new (v := (B h_10)) 35 7 (by kernel_rfl) rfl))
    (Obs.val (fun a' w' E => ob_assign (.tmp 36) rfl (E.new (v := (B l_11)) 36 8 (by kernel_rfl) rfl))
    Obs.nil))))))))))) ?_
  intro bs w7 aZ haZ F
  have eZ : aZ = ({ tmps := #[(.agg #[B a0, B a1, B a2, B a3]), (.agg #[B b0, B b1, B b2, B b3]), (PT w.heap.size), (PT (w.heap.size + 1)), (PT (w.heap.size + 1 + 1)), (PT (w.heap.size + 1 + 1 + 1)), (B l_11), (B l_5), (B l_7), (B h_6), (.int .i64 1), (B a1), (B h_10), (.agg #[B a0, B a1, B a2, B a3]), (.int .i64 1), (.bool true), (.int .i64 1), (B a1), (.tuple #[(B h_8), (B l_9)]), (.int .i64 1), (B a1), (PT (w.heap.size + 1)), (B b0), (B l_3), (.tuple #[(B h_8), (B l_9)]), (B h_8), (B l_9), (PO (w.heap.size + 1 + 1 + 1) 1), (.tuple #[(B h_10), (B l_11)]), (B a1), (PO (w.heap.size + 1) 1), (B b1), (B l_5), (B h_8), (.tuple #[(B h_10), (B l_11)]), (B h_10), (B l_11), (.tuple #[(B h_4), (B l_5)]), (B a0), (PO (w.heap.size + 1) 2), (B b2), (.int .u64 0), (B h_2), (.tuple #[(B h_4), (B l_5)]), (B h_4), (B l_5), (.tuple #[(B h_6), (B l_7)]), (B a0), (PO (w.heap.size + 1) 3), (B b3), (.int .u64 0), (B h_4), (.tuple #[(B h_6), (B l_7)]), (B h_6), (B l_7), (.int .i64 1), undef, undef, undef, undef, undef, undef, undef], defers := [] } : Act) := haZ.trans (by kernel_rfl)
  subst eZ
  clear haZ
  replace RR : Hid (RB w w7 [(w.heap.size + 1 + 1 + 1, #[B l_1, B l_9, .int .u64 0, .int .u64 0]), (w.heap.size + 1 + 1, Zr), (w.heap.size + 1, #[B b0, B b1, B b2, B b3]), (w.heap.size, #[B a0, B a1, B a2, B a3])]) := ⟨F.bw, (RowsAt.cons (F.row 3 rfl) (RowsAt.cons (F.row 2 rfl) (RowsAt.cons (F.row 1 rfl) (RowsAt.cons (F.row 0 rfl) RowsAt.nil))))⟩
  clear F qT q0 q1 q2 q3
  go_upto_region 9 with fail
  obtain ⟨q3, q2, q1, q0, qT⟩ := RR.out.r.lts
  refine wp_region_told (by kernel_rfl) (by kernel_rfl) (by kernel_rfl) [(w.heap.size, #[B a0, B a1, B a2, B a3]), (w.heap.size + 1, #[B b0, B b1, B b2, B b3]), (w.heap.size + 1 + 1, Zr), (w.heap.size + 1 + 1 + 1, #[B l_1, B l_9, .int .u64 0, .int .u64 0])]
    [sV (B a1),
     sV (PO (w.heap.size + 1) 2),
     sV (B b2),
     sV (B l_7),
     sV (B h_10),
     sV (.tuple #[(B h_12), (B l_13)]),
     sV (.tuple #[(B h_12), (B l_13)]),
     sV (B h_12),
     sV (B l_13),
     sV (B h_12),
     sV (B l_13)]
    (by kernel_rfl) RR.out.b (RowsAt.cons (RR.out.at 3 rfl) (RowsAt.cons (RR.out.at 2 rfl) (RowsAt.cons (RR.out.at 1 rfl) (RowsAt.cons (RR.out.at 0 rfl) RowsAt.nil)))) (StOk.of [] rfl StM.nil)
    (Obs.val (fun a' w' E => ob_move (.tmp 11) rfl (E.old 11 (by kernel_rfl)))
    (Obs.val (fun a' w' E => ob_indexAddr 24 (.tmp 3) (.const (.int .i64 2)) rfl (E.old 3 (by kernel_rfl)) (evc a' (.int .i64 2)) (ix24_2 _ _ w'))
    (Obs.val (fun a' w' E => ob_load1 22 (.tmp 39) rfl (E.new (v := (PO (w.heap.size + 1) 2)) 39 1 (by kernel_rfl) rfl) (E.row (g := w.heap.size + 1) (c := #[B b0, B b1, B b2, B b3]) 1 rfl) Tryd.underlying22 rfl rfl)
    (Obs.val (fun a' w' E => ob_move (.tmp 8) rfl (E.old 8 (by kernel_rfl)))
    (Obs.val (fun a' w' E => ob_move (.tmp 12) rfl (E.olds 12 9 (by kernel_rfl) (by kernel_rfl)))
    (Obs.val (fun a' w' E => ob_fcall 85 _ _ rfl (am4 (E.new (v := (B a1)) 38 0 (by kernel_rfl) rfl) (E.new (v := (B b2)) 40 2 (by kernel_rfl) rfl) (E.new (v := (B l_7)) 41 3 (by kernel_rfl) rfl) (E.new (v := (B h_10)) 42 4 (by kernel_rfl) rfl)) (fc85 _ _) (c7.out w'))
    (Obs.val (fun a' w' E => ob_move (.tmp 43) rfl (E.new (v := (.tuple #[(B h_12), (B l_13)])) 43 5 (by kernel_rfl) rfl))
    (Obs.val (fun a' w' E => ob_extract (.tmp 37) 0 rfl (E.new (v := (.tuple #[(B h_12), (B l_13)])) 37 6 (by kernel_rfl) rfl) rfl)
    (Obs.val (fun a' w' E => ob_extract (.tmp 37) 1 rfl (E.new (v := (.tuple #[(B h_12), (B l_13)])) 37 6 (by kernel_rfl) rfl) rfl)
    (Obs.val (fun a' w' E => ob_assign (.tmp 44) rfl (E.new (v := (B h_12)) 44 7 (by kernel_rfl) rfl))
    (Obs.val (fun a' w' E => ob_assign (.tmp 45) rfl (E.new (v := (B l_13)) 45 8 (by kernel_rfl) rfl))
    Obs.nil))))))))))) ?_
  intro bs w8 aZ haZ F
  have eZ : aZ = ({ tmps := #[(.agg #[B a0, B a1, B a2, B a3]), (.agg #[B b0, B b1, B b2, B b3]), (PT w.heap.size), (PT (w.heap.size + 1)), (PT (w.heap.size + 1 + 1)), (PT (w.heap.size + 1 + 1 + 1)), (B l_11), (B l_13), (B l_7), (B h_6), (.int .i64 1), (B a1), (B h_12), (.agg #[B a0, B a1, B a2, B a3]), (.int .i64 1), (.bool true), (.int .i64 1), (B a1), (.tuple #[(B h_8), (B l_9)]), (.int .i64 1), (B a1), (PT (w.heap.size + 1)), (B b0), (B l_3), (.tuple #[(B h_8), (B l_9)]), (B h_8), (B l_9), (PO (w.heap.size + 1 + 1 + 1) 1), (.tuple #[(B h_10), (B l_11)]), (B a1), (PO (w.heap.size + 1) 1), (B b1), (B l_5), (B h_8), (.tuple #[(B h_10), (B l_11)]), (B h_10), (B l_11), (.tuple #[(B h_12), (B l_13)]), (B a1), (PO (w.heap.size + 1) 2), (B b2), (B l_7), (B h_10), (.tuple #[(B h_12), (B l_13)]), (B h_12), (B l_13), (.tuple #[(B h_6), (B l_7)]), (B a0), (PO (w.heap.size + 1) 3), (B b3), (.int .u64 0), (B h_4), (.tuple #[(B h_6), (B l_7)]), (B h_6), (B l_7), (.int .i64 1), undef, undef, undef, undef, undef, undef, undef], defers := [] } : Act) := haZ.trans (by kernel_rfl)
  subst eZ
  clear haZ
  replace RR : Hid (RB w w8 [(w.heap.size + 1 + 1 + 1, #[B l_1, B l_9, .int .u64 0, .int .u64 0]), (w.heap.size + 1 + 1, Zr), (w.heap.size + 1, #[B b0, B b1, B b2, B b3]), (w.heap.size, #[B a0, B a1, B a2, B a3])]) := ⟨F.bw, (RowsAt.cons (F.row 3 rfl) (RowsAt.cons (F.row 2 rfl) (RowsAt.cons (F.row 1 rfl) (RowsAt.cons (F.row 0 rfl) RowsAt.nil))))⟩
  clear F qT q0 q1 q2 q3
  go_upto_region 10 with fail
  obtain ⟨q3, q2, q1, q0, qT⟩ := RR.out.r.lts
  refine wp_region_told (by kernel_rfl) (by kernel_rfl) (by kernel_rfl) [(w.heap.size, #[B a0, B a1, B a2, B a3]), (w.heap.size + 1, #[B b0, B b1, B b2, B b3]), (w.heap.size + 1 + 1, Zr), (w.heap.size + 1 + 1 + 1, #[B l_1, B l_9, .int .u64 0, .int .u64 0])]
    [sV (B a1),
     sV (PO (w.heap.size + 1) 3),
     sV (B b3),
     sV (B h_6),
     sV (B h_12),
     sV (.tuple #[(B h_14), (B l_15)]),
     sV (.tuple #[(B h_14), (B l_15)]),
     sV (B h_14),
     sV (B l_15),
     sV (B h_14),
     sV (B l_15)]
    (by kernel_rfl) RR.out.b (RowsAt.cons (RR.out.at 3 rfl) (RowsAt.cons (RR.out.at 2 rfl) (RowsAt.cons (RR.out.at 1 rfl) (RowsAt.cons (RR.out.at 0 rfl) RowsAt.nil)))) (StOk.of [] rfl StM.nil)
    (Obs.val (fun a' w' E => ob_move (.tmp 11) rfl (E.old 11 (by kernel_rfl)))
    (Obs.val (fun a' w' E => ob_indexAddr 24 (.tmp 3) (.const (.int .i64 3)) rfl (E.old 3 (by kernel_rfl)) (evc a' (.int .i64 3)) (ix24_3 _ _ w'))
    (Obs.val (fun a' w' E => ob_load1 22 (.tmp 48) rfl (E.new (v := (PO (w.heap.size + 1) 3)) 48 1 (by kernel_rfl) rfl) (E.row (g := w.heap.size + 1) (c := #[B b0, B b1, B b2, B b3]) 1 rfl) Tryd.underlying22 rfl rfl)
    (Obs.val (fun a' w' E => ob_move (.tmp 9) rfl (E.olds 9 9 (by kernel_rfl) (by kernel_rfl)))
    (Obs.val (fun a' w' E => ob_move (.tmp 12) rfl (E.old 12 (by kernel_rfl)))
    (Obs.val (fun a' w' E => ob_fcall 85 _ _ rfl (am4 (E.new (v := (B a1)) 47 0 (by kernel_rfl) rfl) (E.new (v := (B b3)) 49 2 (by kernel_rfl) rfl) (E.new (v := (B h_6)) 50 3 (by kernel_rfl) rfl) (E.new (v := (B h_12)) 51 4 (by kernel_rfl) rfl)) (fc85 _ _) (c8.out w'))
    (Obs.val (fun a' w' E => ob_move (.tmp 52) rfl (E.new (v := (.tuple #[(B h_14), (B l_15)])) 52 5 (by kernel_rfl) rfl))
    (Obs.val (fun a' w' E => ob_extract (.tmp 46) 0 rfl (E.new (v := (.tuple #[(B h_14), (B l_15)])) 46 6 (by kernel_rfl) rfl) rfl)
    (Obs.val (fun a' w' E => ob_extract (.tmp 46) 1 rfl (E.new (v := (.tuple #[(B h_14), (B l_15)])) 46 6 (by kernel_rfl) rfl) rfl)
    (Obs.val (fun a' w' E => ob_assign (.tmp 53) rfl (E.new (v := (B h_14)) 53 7 (by kernel_rfl) rfl))
    (Obs.val (fun a' w' E => ob_assign (.tmp 54) rfl (E.new (v := (B l_15)) 54 8 (by kernel_rfl) rfl))
    Obs.nil))))))))))) ?_
  intro bs w9 aZ haZ F
  have eZ : aZ = ({ tmps := #[(.agg #[B a0, B a1, B a2, B a3]), (.agg #[B b0, B b1, B b2, B b3]), (PT w.heap.size), (PT (w.heap.size + 1)), (PT (w.heap.size + 1 + 1)), (PT (w.heap.size + 1 + 1 + 1)), (B l_11), (B l_13), (B l_15), (B h_14), (.int .i64 1), (B a1), (B h_12), (.agg #[B a0, B a1, B a2, B a3]), (.int .i64 1), (.bool true), (.int .i64 1), (B a1), (.tuple #[(B h_8), (B l_9)]), (.int .i64 1), (B a1), (PT (w.heap.size + 1)), (B b0), (B l_3), (.tuple #[(B h_8), (B l_9)]), (B h_8), (B l_9), (PO (w.heap.size + 1 + 1 + 1) 1), (.tuple #[(B h_10), (B l_11)]), (B a1), (PO (w.heap.size + 1) 1), (B b1), (B l_5), (B h_8), (.tuple #[(B h_10), (B l_11)]), (B h_10), (B l_11), (.tuple #[(B h_12), (B l_13)]), (B a1), (PO (w.heap.size + 1) 2), (B b2), (B l_7), (B h_10), (.tuple #[(B h_12), (B l_13)]), (B h_12), (B l_13), (.tuple #[(B h_14), (B l_15)]), (B a1), (PO (w.heap.size + 1) 3), (B b3), (B h_6), (B h_12), (.tuple #[(B h_14), (B l_15)]), (B h_14), (B l_15), (.int .i64 1), undef, undef, undef, undef, undef, undef, undef], defers := [] } : Act) := haZ.trans (by kernel_rfl)
  subst eZ
  clear haZ
  replace RR : Hid (RB w w9 [(w.heap.size + 1 + 1 + 1, #[B l_1, B l_9, .int .u64 0, .int .u64 0]), (w.heap.size + 1 + 1, Zr), (w.heap.size + 1, #[B b0, B b1, B b2, B b3]), (w.heap.size, #[B a0, B a1, B a2, B a3])]) := ⟨F.bw, (RowsAt.cons (F.row 3 rfl) (RowsAt.cons (F.row 2 rfl) (RowsAt.cons (F.row 1 rfl) (RowsAt.cons (F.row 0 rfl) RowsAt.nil))))⟩
  clear F qT q0 q1 q2 q3
  go_wp2
  rw [rounds_succ]
  go_upto_region 7 with fail
  obtain ⟨q3, q2, q1, q0, qT⟩ := RR.out.r.lts
  refine wp_region_told (by kernel_rfl) (by kernel_rfl) (by kernel_rfl) [(w.heap.size, #[B a0, B a1, B a2, B a3]), (w.heap.size + 1, #[B b0, B b1, B b2, B b3]), (w.heap.size + 1 + 1, Zr)]
    [sV (.int .i64 2),
     sV (B a2),
     sV (PT (w.heap.size + 1)),
     sV (B b0),
     sV (B l_11),
     sV (.tuple #[(B h_16), (B l_17)]),
     sV (.tuple #[(B h_16), (B l_17)]),
     sV (B h_16),
     sV (B l_17),
     sV (B h_16),
     sV (PO (w.heap.size + 1 + 1 + 1) 2),
     sK (w.heap.size + 1 + 1 + 1) #[B l_1, B l_9, .int .u64 0, .int .u64 0] #[B l_1, B l_9, B l_17, .int .u64 0]]
    (by kernel_rfl) RR.out.b (RowsAt.cons (RR.out.at 3 rfl) (RowsAt.cons (RR.out.at 2 rfl) (RowsAt.cons (RR.out.at 1 rfl) RowsAt.nil))) (StOk.of [(w.heap.size + 1 + 1 + 1, #[B l_1, B l_9, .int .u64 0, .int .u64 0])] rfl (StM.cons (RR.out.at 0 rfl) (by omega) (Apart.cons (by omega) (Apart.cons (by omega) (Apart.cons (by omega) Apart.nil))) Apart.nil StM.nil))
    (Obs.val (fun a' w' E => ob_move (.tmp 10) rfl (E.old 10 (by kernel_rfl)))
    (Obs.val (fun a' w' E => ob_move (.tmp 11) rfl (E.old 11 (by kernel_rfl)))
    (Obs.val (fun a' w' E => ob_indexAddr 24 (.tmp 3) (.const (.int .i64 0)) rfl (E.old 3 (by kernel_rfl)) (evc a' (.int .i64 0)) (ix24_0 _ _ w'))
    (Obs.val (fun a' w' E => ob_load1 22 (.tmp 21) rfl (E.new (v := (PT (w.heap.size + 1))) 21 2 (by kernel_rfl) rfl) (E.row (g := w.heap.size + 1) (c := #[B b0, B b1, B b2, B b3]) 1 rfl) Tryd.underlying22 rfl rfl)
    (Obs.val (fun a' w' E => ob_move (.tmp 6) rfl (E.old 6 (by kernel_rfl)))
    (Obs.val (fun a' w' E => ob_fcall 85 _ _ rfl (am4 (E.new (v := (B a2)) 20 1 (by kernel_rfl) rfl) (E.new (v := (B b0)) 22 3 (by kernel_rfl) rfl) (E.new (v := (B l_11)) 23 4 (by kernel_rfl) rfl) (evc a' (.int .u64 0))) (fc85 _ _) (c9.out w'))
    (Obs.val (fun a' w' E => ob_move (.tmp 24) rfl (E.new (v := (.tuple #[(B h_16), (B l_17)])) 24 5 (by kernel_rfl) rfl))
    (Obs.val (fun a' w' E => ob_extract (.tmp 18) 0 rfl (E.new (v := (.tuple #[(B h_16), (B l_17)])) 18 6 (by kernel_rfl) rfl) rfl)
    (Obs.val (fun a' w' E => ob_extract (.tmp 18) 1 rfl (E.new (v := (.tuple #[(B h_16), (B l_17)])) 18 6 (by kernel_rfl) rfl) rfl)
    (Obs.val (fun a' w' E => ob_assign (.tmp 25) rfl (E.new (v := (B h_16)) 25 7 (by kernel_rfl) rfl))
    (Obs.val (fun a' w' E => ob_indexAddr 24 (.tmp 5) (.tmp 19) rfl (E.old 5 (by kernel_rfl)) (E.new (v := (.int .i64 2)) 19 0 (by kernel_rfl) rfl) (ix24_2 _ _ w'))
    (Obs.stk (fun a' w' E hr => ob_storea 22 (.tmp 27) (.tmp 26) rfl (E.new (v := (PO (w.heap.size + 1 + 1 + 1) 2)) 27 10 (by kernel_rfl) rfl) (E.new (v := (B l_17)) 26 8 (by kernel_rfl) rfl) rfl hr (by kernel_rfl) (Nat.le_of_ble_eq_true rfl) (by kernel_rfl) rfl)
    Obs.nil)))))))))))) ?_
  intro bs w10 aZ haZ F
  have eZ : aZ = ({ tmps := #[(.agg #[B a0, B a1, B a2, B a3]), (.agg #[B b0, B b1, B b2, B b3]), (PT w.heap.size), (PT (w.heap.size + 1)), (PT (w.heap.size + 1 + 1)), (PT (w.heap.size + 1 + 1 + 1)), (B l_11), (B l_13), (B l_15), (B h_14), (.int .i64 2), (B a2), (B h_16), (.agg #[B a0, B a1, B a2, B a3]), (.int .i64 2), (.bool true), (.int .i64 2), (B a2), (.tuple #[(B h_16), (B l_17)]), (.int .i64 2), (B a2), (PT (w.heap.size + 1)), (B b0), (B l_11), (.tuple #[(B h_16), (B l_17)]), (B h_16), (B l_17), (PO (w.heap.size + 1 + 1 + 1) 2), (.tuple #[(B h_10), (B l_11)]), (B a1), (PO (w.heap.size + 1) 1), (B b1), (B l_5), (B h_8), (.tuple #[(B h_10), (B l_11)]), (B h_10), (B l_11), (.tuple #[(B h_12), (B l_13)]), (B a1), (PO (w.heap.size + 1) 2), (B b2), (B l_7), (B h_10), (.tuple #[(B h_12), (B l_13)]), (B h_12), (B l_13), (.tuple #[(B h_14), (B l_15)]), (B a1), (PO (w.heap.size + 1) 3), (B b3), (B h_6), (B h_12), (.tuple #[(B h_14), (B l_15)]), (B h_14), (B l_15), (.int .i64 2), undef, undef, undef, undef, undef, undef, undef], defers := [] } : Act) := haZ.trans (by kernel_rfl)
  subst eZ
  clear haZ
  replace RR : Hid (RB w w10 [(w.heap.size + 1 + 1 + 1, #[B l_1, B l_9, B l_17, .int .u64 0]), (w.heap.size + 1 + 1, Zr), (w.heap.size + 1, #[B b0, B b1, B b2, B b3]), (w.heap.size, #[B a0, B a1, B a2, B a3])]) := ⟨F.bw, (RowsAt.cons (F.sk 11 rfl) (RowsAt.cons (F.row 2 rfl) (RowsAt.cons (F.row 1 rfl) (RowsAt.cons (F.row 0 rfl) RowsAt.nil))))⟩
  clear F qT q0 q1 q2 q3
  go_upto_region 8 with fail
  obtain ⟨q3, q2, q1, q0, qT⟩ := RR.out.r.lts
  refine wp_region_told (by kernel_rfl) (by kernel_rfl) (by kernel_rfl) [(w.heap.size, #[B a0, B a1, B a2, B a3]), (w.heap.size + 1, #[B b0, B b1, B b2, B b3]), (w.heap.size + 1 + 1, Zr), (w.heap.size + 1 + 1 + 1, #[B l_1, B l_9, B l_17, .int .u64 0])]
    [sV (B a2),
     sV (PO (w.heap.size + 1) 1),
     sV (B b1),
     sV (B l_13),
     sV (B h_16),
     sV (.tuple #[(B h_18), (B l_19)]),
     sV (.tuple #[(B h_18), (B l_19)]),
     sV (B h_18),
     sV (B l_19),
     sV (B h_18),
     sV (B l_19)]
    (by kernel_rfl) RR.out.b (RowsAt.cons (RR.out.at 3 rfl) (RowsAt.cons (RR.out.at 2 rfl) (RowsAt.cons (RR.out.at 1 rfl) (RowsAt.cons (RR.out.at 0 rfl) RowsAt.nil)))) (StOk.of [] rfl StM.nil)
    (Obs.val (fun a' w' E => ob_move (.tmp 11) rfl (E.old 11 (by kernel_rfl)))
    (Obs.val (fun a' w' E => ob_indexAddr 24 (.tmp 3) (.const (.int .i64 1)) rfl (E.old 3 (by kernel_rfl)) (evc a' (.int .i64 1)) (ix24_1 _ _ w'))
    (Obs.val (fun a' w' E => ob_load1 22 (.tmp 30) rfl (E.new (v := (PO (w.heap.size + 1) 1)) 30 1 (by kernel_rfl) rfl) (E.row (g := w.heap.size + 1) (c := #[B b0, B b1, B b2, B b3]) 1 rfl) Tryd.underlying22 rfl rfl)
    (Obs.val (fun a' w' E => ob_move (.tmp 7) rfl (E.old 7 (by kernel_rfl)))
    (Obs.val (fun a' w' E => ob_move (.tmp 12) rfl (E.olds 12 9 (by kernel_rfl) (by kernel_rfl)))
    (Obs.val (fun a' w' E => ob_fcall 85 _ _ rfl (am4 (E.new (v := (B a2)) 29 0 (by kernel_rfl) rfl) (E.new (v := (B b1)) 31 2 (by kernel_rfl) rfl) (E.new (v := (B l_13)) 32 3 (by kernel_rfl) rfl) (E.new (v := (B h_16)) 33 4 (by kernel_rfl) rfl)) (fc85 _ _) (c10.out w'))
    (Obs.val (fun a' w' E => ob_move (.tmp 34) rfl (E.new (v := (.tuple #[(B h_18), (B l_19)])) 34 5 (by kernel_rfl) rfl))
    (Obs.val (fun a' w' E => ob_extract (.tmp 28) 0 rfl (E.new (v := (.tuple #[(B h_18), (B l_19)])) 28 6 (by kernel_rfl) rfl) rfl)
    (Obs.val (fun a' w' E => ob_extract (.tmp 28) 1 rfl (E.new (v := (.tuple #[(B h_18), (B l_19)])) 28 6 (by kernel_rfl) rfl) rfl)
    (Obs.val (fun a' w' E => ob_assign (.tmp 35) rfl (E.new (v := (B h_18)) 35 7 (by kernel_rfl) rfl))
    (Obs.val (fun a' w' E => ob_assign (.tmp 36) rfl (E.new (v := (B l_19)) 36 8 (by kernel_rfl) rfl))
    Obs.nil))))))))))) ?_
  intro bs w11 aZ haZ F
  have eZ : aZ = ({ tmps := #[(.agg #[B a0, B a1, B a2, B a3]), (.agg #[B b0, B b1, B b2, B b3]), (PT w.heap.size), (PT (w.heap.size + 1)), (PT (w.heap.size + 1 + 1)), (PT (w.heap.size + 1 + 1 + 1)), (B l_19), (B l_13), (B l_15), (B h_14), (.int .i64 2), (B a2), (B h_18), (.agg #[B a0, B a1, B a2, B a3]), (.int .i64 2), (.bool true), (.int .i64 2), (B a2), (.tuple #[(B h_16), (B l_17)]), (.int .i64 2), (B a2), (PT (w.heap.size + 1)), (B b0), (B l_11), (.tuple #[(B h_16), (B l_17)]), (B h_16), (B l_17), (PO (w.heap.size + 1 + 1 + 1) 2), (.tuple #[(B h_18), (B l_19)]), (B a2), (PO (w.heap.size + 1) 1), (B b1), (B l_13), (B h_16), (.tuple #[(B h_18), (B l_19)]), (B h_18), (B l_19), (.tuple #[(B h_12), (B l_13)]), (B a1), (PO (w.heap.size + 1) 2), (B b2), (B l_7), (B h_10), (.tuple #[(B h_12), (B l_13)]), (B h_12), (B l_13), (.tuple #[(B h_14), (B l_15)]), (B a1), (PO (w.heap.size + 1) 3), (B b3), (B h_6), (B h_12), (.tuple #[(B h_14), (B l_15)]), (B h_14), (B l_15), (.int .i64 2), undef, undef, undef, undef, undef, undef, undef], defers := [] } : Act) := haZ.trans (by kernel_rfl)
  subst eZ
  clear haZ
  replace RR : Hid (RB w w11 [(w.heap.size + 1 + 1 + 1, #[B l_1, B l_9, B l_17, .int .u64 0]), (w.heap.size + 1 + 1, Zr), (w.heap.size + 1, #[B b0, B b1, B b2, B b3]), (w.heap.size, #[B a0, B a1, B a2, B a3])]) := ⟨F.bw, (RowsAt.cons (F.row 3 rfl) (RowsAt.cons (F.row 2 rfl) (RowsAt.cons (F.row 1 rfl) (RowsAt.cons (F.row 0 rfl) RowsAt.nil))))⟩
  clear F qT q0 q1 q2 q3
  go_upto_region 9 with fail
  obtain ⟨q3, q2, q1, q0, qT⟩ := RR.out.r.lts
  refine wp_region_told (by kernel_rfl) (by kernel_rfl) (by kernel_rfl) [(w.heap.size, #[B a0, B a1, B a2, B a3]), (w.heap.size + 1, #[B b0, B b1, B b2, B b3]), (w.heap.size + 1 + 1, Zr), (w.heap.size + 1 + 1 + 1, #[B l_1, B l_9, B l_17, .int .u64 0])]
    [sV (B a2),
     sV (PO (w.heap.size + 1) 2),
     sV (B b2),
     sV (B l_15),
     sV (B h_18),
     sV (.tuple #[(B h_20), (B l_21)]),
     sV (.tuple #[(B h_20), (B l_21)]),
     sV (B h_20),
     sV (B l_21),
     sV (B h_20),
     sV (B l_21)]
    (by kernel_rfl) RR.out.b (RowsAt.cons (RR.out.at 3 rfl) (RowsAt.cons (RR.out.at 2 rfl) (RowsAt.cons (RR.out.at 1 rfl) (RowsAt.cons (RR.out.at 0 rfl) RowsAt.nil)))) (StOk.of [] rfl StM.nil)
    (Obs.val (fun a' w' E => ob_move (.tmp 11) rfl (E.old 11 (by kernel_rfl)))
    (Obs.val (fun a' w' E => ob_indexAddr 24 (.tmp 3) (.const (.int .i64 2)) rfl (E.old 3 (by kernel_rfl)) (evc a' (.int .i64 2)) (ix24_2 _ _ w'))
    (Obs.val (fun a' w' E => ob_load1 22 (.tmp 39) rfl (E.new (v := (PO (w.heap.size + 1) 2)) 39 1 (by kernel_rfl) rfl) (E.row (g := w.heap.size + 1) (c := #[B b0, B b1, B b2, B b3]) 1 rfl) Tryd.underlying22 rfl rfl)
    (Obs.val (fun a' w' E => ob_move (.tmp 8) rfl (E.old 8 (by kernel_rfl)))
    (Obs.val (fun a' w' E => ob_move (.tmp 12) rfl (E.olds 12 9 (by kernel_rfl) (by kernel_rfl)))
    (Obs.val (fun a' w' E => ob_fcall 85 _ _ rfl (am4 (E.new (v := (B a2)) 38 0 (by kernel_rfl) rfl) (E.new (v := (B b2)) 40 2 (by kernel_rfl) rfl) (E.new (v := (B l_15)) 41 3 (by kernel_rfl) rfl) (E.new (v := (B h_18)) 42 4 (by kernel_rfl) rfl)) (fc85 _ _) (c11.out w'))
    (Obs.val (fun a' w' E => ob_move (.tmp 43) rfl (E.new (v := (.tuple #[(B h_20), (B l_21)])) 43 5 (by kernel_rfl) rfl))
    (Obs.val (fun a' w' E => ob_extract (.tmp 37) 0 rfl (E.new (v := (.tuple #[(B h_20), (B l_21)])) 37 6 (by kernel_rfl) rfl) rfl)
    (Obs.val (fun a' w' E => ob_extract (.tmp 37) 1 rfl (E.new (v := (.tuple #[(B h_20), (B l_21)])) 37 6 (by kernel_rfl) rfl) rfl)
    (Obs.val (fun a' w' E => ob_assign (.tmp 44) rfl (E.new (v := (B h_20)) 44 7 (by kernel_rfl) rfl))
    (Obs.val (fun a' w' E => ob_assign (.tmp 45) rfl (E.new (v := (B l_21)) 45 8 (by kernel_rfl) rfl))
    Obs.nil))))))))))) ?_
  intro bs w12 aZ haZ F
  have eZ : aZ = ({ tmps := #[(.agg #[B a0, B a1, B a2, B a3]), (.agg #[B b0, B b1, B b2, B b3]), (PT w.heap.size), (PT (w.heap.size + 1)), (PT (w.heap.size + 1 + 1)), (PT (w.heap.size + 1 + 1 + 1)), (B l_19), (B l_21), (B l_15), (B h_14), (.int .i64 2), (B a2), (B h_20), (.agg #[B a0, B a1, B a2, B a3]), (.int .i64 2), (.bool true), (.int .i64 2), (B a2), (.tuple #[(B h_16), (B l_17)]), (.int .i64 2), (B a2), (PT (w.heap.size + 1)), (B b0), (B l_11), (.tuple #[(B h_16), (B l_17)]), (B h_16), (B l_17), (PO (w.heap.size + 1 + 1 + 1) 2), (.tuple #[(B h_18), (B l_19)]), (B a2), (PO (w.heap.size + 1) 1), (B b1), (B l_13), (B h_16), (.tuple #[(B h_18), (B l_19)]), (B h_18), (B l_19), (.tuple #[(B h_20), (B l_21)]), (B a2), (PO (w.heap.size + 1) 2), (B b2), (B l_15), (B h_18), (.tuple #[(B h_20), (B l_21)]), (B h_20), (B l_21), (.tuple #[(B h_14), (B l_15)]), (B a1), (PO (w.heap.size + 1) 3), (B b3), (B h_6), (B h_12), (.tuple #[(B h_14), (B l_15)]), (B h_14), (B l_15), (.int .i64 2), undef, undef, undef, undef, undef, undef, undef], defers := [] } : Act) := haZ.trans (by kernel_rfl)
  subst eZ
  clear haZ
  replace RR : Hid (RB w w12 [(w.heap.size + 1 + 1 + 1, #[B l_1, B l_9, B l_17, .int .u64 0]), (w.heap.size + 1 + 1, Zr), (w.heap.size + 1, #[B b0, B b1, B b2, B b3]), (w.heap.size, #[B a0, B a1, B a2, B a3])]) := ⟨F.bw, (RowsAt.cons (F.row 3 rfl) (RowsAt.cons (F.row 2 rfl) (RowsAt.cons (F.row 1 rfl) (RowsAt.cons (F.row 0 rfl) RowsAt.nil))))⟩
  clear F qT q0 q1 q2 q3
  go_upto_region 10 with fail
  obtain ⟨q3, q2, q1, q0, qT⟩ := RR.out.r.lts
  refine wp_region_told (by kernel_rfl) (by kernel_rfl) (by kernel_rfl) [(w.heap.size, #[B a0, B a1, B a2, B a3]), (w.heap.size + 1, #[B b0, B b1, B b2, B b3]), (w.heap.size + 1 + 1, Zr), (w.heap.size + 1 + 1 + 1, #[B l_1, B l_9, B l_17, .int .u64 0])]
    [sV (B a2),
     sV (PO (w.heap.size + 1) 3),
     sV (B b3),
     sV (B h_14),
     sV (B h_20),
     sV (.tuple #[(B h_22), (B l_23)]),
     sV (.tuple #[(B h_22), (B l_23)]),
     sV (B h_22),
     sV (B l_23),
     sV (B h_22),
     sV (B l_23)]
    (by kernel_rfl) RR.out.b (RowsAt.cons (RR.out.at 3 rfl) (RowsAt.cons (RR.out.at 2 rfl) (RowsAt.cons (RR.out.at 1 rfl) (RowsAt.cons (RR.out.at 0 rfl) RowsAt.nil)))) (StOk.of [] rfl StM.nil)
    (Obs.val (fun a' w' E => ob_move (.tmp 11) rfl (E.old 11 (by kernel_rfl)))
    (Obs.val (fun a' w' E => ob_indexAddr 24 (.tmp 3) (.const (.int .i64 3)) rfl (E.old 3 (by kernel_rfl)) (evc a' (.int .i64 3)) (ix24_3 _ _ w'))
    (Obs.val (fun a' w' E => ob_load1 22 (.tmp 48) rfl (E.new (v := (PO (w.heap.size + 1) 3)) 48 1 (by kernel_rfl) rfl) (E.row (g := w.heap.size + 1) (c := #[B b0, B b1, B b2, B b3]) 1 rfl) Tryd.underlying22 rfl rfl)
    (Obs.val (fun a' w' E => ob_move (.tmp 9) rfl (E.olds 9 9 (by kernel_rfl) (by kernel_rfl)))
    (Obs.val (fun a' w' E => ob_move (.tmp 12) rfl (E.old 12 (by kernel_rfl)))
    (Obs.val (fun a' w' E => ob_fcall 85 _ _ rfl (am4 (E.new (v := (B a2)) 47 0 (by kernel_rfl) rfl) (E.new (v := (B b3)) 49 2 (by kernel_rfl) rfl) (E.new (v := (B h_14)) 50 3 (by kernel_rfl) rfl) (E.new (v := (B h_20)) 51 4 (by kernel_rfl) rfl)) (fc85 _ _) (c12.out w'))
    (Obs.val (fun a' w' E => ob_move (.tmp 52) rfl (E.new (v := (.tuple #[(B h_22), (B l_23)])) 52 5 (by kernel_rfl) rfl))
    (Obs.val (fun a' w' E => ob_extract (.tmp 46) 0 rfl (E.new (v := (.tuple #[(B h_22), (B l_23)])) 46 6 (by kernel_rfl) rfl) rfl)
    (Obs.val (fun a' w' E => ob_extract (.tmp 46) 1 rfl (E.new (v := (.tuple #[(B h_22), (B l_23)])) 46 6 (by kernel_rfl) rfl) rfl)
    (Obs.val (fun a' w' E => ob_assign (.tmp 53) rfl (E.new (v := (B h_22)) 53 7 (by kernel_rfl) rfl))
    (Obs.val (fun a' w' E => ob_assign (.tmp 54) rfl (E.new (v := (B l_23)) 54 8 (by kernel_rfl) rfl))
    Obs.nil))))))))))) ?_
  intro bs w13 aZ haZ F
  have eZ : aZ = ({ tmps := #[(.agg #[B a0, B a1, B a2, B a3]), (.agg #[B b0, B b1, B b2, B b3]), (PT w.heap.size), (PT (w.heap.size + 1)), (PT (w.heap.size + 1 + 1)), (PT (w.heap.size + 1 + 1 + 1)), (B l_19), (B l_21), (B l_23), (B h_22), (.int .i64 2), (B a2), (B h_20), (.agg #[B a0, B a1, B a2, B a3]), (.int .i64 2), (.bool true), (.int .i64 2), (B a2), (.tuple #[(B h_16), (B l_17)]), (.int .i64 2), (B a2), (PT (w.heap.size + 1)), (B b0), (B l_11), (.tuple #[(B h_16), (B l_17)]), (B h_16), (B l_17), (PO (w.heap.size + 1 + 1 + 1) 2), (.tuple #[(B h_18), (B l_19)]), (B a2), (PO (w.heap.size + 1) 1), (B b1), (B l_13), (B h_16), (.tuple #[(B h_18), (B l_19)]), (B h_18), (B l_19), (.tuple #[(B h_20), (B l_21)]), (B a2), (PO (w.heap.size + 1) 2), (B b2), (B l_15), (B h_18), (.tuple #[(B h_20), (B l_21)]), (B h_20), (B l_21), (.tuple #[(B h_22), (B l_23)]), (B a2), (PO (w.heap.size + 1) 3), (B b3), (B h_14), (B h_20), (.tuple #[(B h_22), (B l_23)]), (B h_22), (B l_23), (.int .i64 2), undef, undef, undef, undef, undef, undef, undef], defers := [] } : Act) := haZ.trans (by kernel_rfl)
  subst eZ
  clear haZ
  replace RR : Hid (RB w w13 [(w.heap.size + 1 + 1 + 1, #[B l_1, B l_9, B l_17, .int .u64 0]), (w.heap.size + 1 + 1, Zr), (w.heap.size + 1, #[B b0, B b1, B b2, B b3]), (w.heap.size, #[B a0, B a1, B a2, B a3])]) := ⟨F.bw, (RowsAt.cons (F.row 3 rfl) (RowsAt.cons (F.row 2 rfl) (RowsAt.cons (F.row 1 rfl) (RowsAt.cons (F.row 0 rfl) RowsAt.nil))))⟩
  clear F qT q0 q1 q2 q3
  go_wp2
  rw [rounds_succ]
  go_upto_region 7 with fail
  obtain ⟨q3, q2, q1, q0, qT⟩ := RR.out.r.lts
  refine wp_region_told (by kernel_rfl) (by kernel_rfl) (by kernel_rfl) [(w.heap.size, #[B a0, B a1, B a2, B a3]), (w.heap.size + 1, #[B b0, B b1, B b2, B b3]), (w.heap.size + 1 + 1, Zr)]
    [sV (.int .i64 3),
     sV (B a3),
     sV (PT (w.heap.size + 1)),
     sV (B b0),
     sV (B l_19),
     sV (.tuple #[(B h_24), (B l_25)]),
     sV (.tuple #[(B h_24), (B l_25)]),
     sV (B h_24),
     sV (B l_25),
     sV (B h_24),
     sV (PO (w.heap.size + 1 + 1 + 1) 3),
     sK (w.heap.size + 1 + 1 + 1) #[B l_1, B l_9, B l_17, .int .u64 0] #[B l_1, B l_9, B l_17, B l_25]]
    (by kernel_rfl) RR.out.b (RowsAt.cons (RR.out.at 3 rfl) (RowsAt.cons (RR.out.at 2 rfl) (RowsAt.cons (RR.out.at 1 rfl) RowsAt.nil))) (StOk.of [(w.heap.size + 1 + 1 + 1, #[B l_1, B l_9, B l_17, .int .u64 0])] rfl (StM.cons (RR.out.at 0 rfl) (by omega) (Apart.cons (by omega) (Apart.cons (by omega) (Apart.cons (by omega) Apart.nil))) Apart.nil StM.nil))
    (Obs.val (fun a' w' E => ob_move (.tmp 10) rfl (E.old 10 (by kernel_rfl)))
    (Obs.val (fun a' w' E => ob_move (.tmp 11) rfl (E.old 11 (by kernel_rfl)))
    (Obs.val (fun a' w' E => ob_indexAddr 24 (.tmp 3) (.const (.int .i64 0)) rfl (E.old 3 (by kernel_rfl)) (evc a' (.int .i64 0)) (ix24_0 _ _ w'))
    (Obs.val (fun a' w' E => ob_load1 22 (.tmp 21) rfl (E.new (v := (PT (w.heap.size + 1))) 21 2 (by kernel_rfl) rfl) (E.row (g := w.heap.size + 1) (c := #[B b0, B b1, B b2, B b3]) 1 rfl) Tryd.underlying22 rfl rfl)
    (Obs.val (fun a' w' E => ob_move (.tmp 6) rfl (E.old 6 (by kernel_rfl)))
    (Obs.val (fun a' w' E => ob_fcall 85 _ _ rfl (am4 (E.new (v := (B a3)) 20 1 (by kernel_rfl) rfl) (E.new (v := (B b0)) 22 3 (by kernel_rfl) rfl) (E.new (v := (B l_19)) 23 4 (by kernel_rfl) rfl) (evc a' (.int .u64 0))) (fc85 _ _) (c13.out w'))
    (Obs.val (fun a' w' E => ob_move (.tmp 24) rfl (E.new (v := (.tuple #[(B h_24), (B l_25)])) 24 5 (by kernel_rfl) rfl))
    (Obs.val (fun a' w' E => ob_extract (.tmp 18) 0 rfl (E.new (v := (.tuple #[(B h_24), (B l_25)])) 18 6 (by kernel_rfl) rfl) rfl)
    (Obs.val (fun a' w' E => ob_extract (.tmp 18) 1 rfl (E.new (v := (.tuple #[(B h_24), (B l_25)])) 18 6 (by kernel_rfl) rfl) rfl)
    (Obs.val (fun a' w' E => ob_assign (.tmp 25) rfl (E.new (v := (B h_24)) 25 7 (by kernel_rfl) rfl))
    (Obs.val (fun a' w' E => ob_indexAddr 24 (.tmp 5) (.tmp 19) rfl (E.old 5 (by kernel_rfl)) (E.new (v := (.int .i64 3)) 19 0 (by kernel_rfl) rfl) (ix24_3 _ _ w'))
    (Obs.stk (fun a' w' E hr => ob_storea 22 (.tmp 27) (.tmp 26) rfl (E.new (v := (PO (w.heap.size + 1 + 1 + 1) 3)) 27 10 (by kernel_rfl) rfl) (E.new (v := (B l_25)) 26 8 (by kernel_rfl) rfl) rfl hr (by kernel_rfl) (Nat.le_of_ble_eq_true rfl) (by kernel_rfl) rfl)
    Obs.nil)))))))))))) ?_
  intro bs w14 aZ haZ F
  have eZ : aZ = ({ tmps := #[(.agg #[B a0, B a1, B a2, B a3]), (.agg #[B b0, B b1, B b2, B b3]), (PT w.heap.size), (PT (w.heap.size + 1)), (PT (w.heap.size + 1 + 1)), (PT (w.heap.size + 1 + 1 + 1)), (B l_19), (B l_21), (B l_23), (B h_22), (.int .i64 3), (B a3), (B h_24), (.agg #[B a0, B a1, B a2, B a3]), (.int .i64 3), (.bool true), (.int .i64 3), (B a3), (.tuple #[(B h_24), (B l_25)]), (.int .i64 3), (B a3), (PT (w.heap.size + 1)), (B b0), (B l_19), (.tuple #[(B h_24), (B l_25)]), (B h_24), (B l_25), (PO (w.heap.size + 1 + 1 + 1) 3), (.tuple #[(B h_18), (B l_19)]), (B a2), (PO (w.heap.size + 1) 1), (B b1), (B l_13), (B h_16), (.tuple #[(B h_18), (B l_19)]), (B h_18), (B l_19), (.tuple #[(B h_20), (B l_21)]), (B a2), (PO (w.heap.size + 1) 2), (B b2), (B l_15), (B h_18), (.tuple #[(B h_20), (B l_21)]), (B h_20), (B l_21), (.tuple #[(B h_22), (B l_23)]), (B a2), (PO (w.heap.size + 1) 3), (B b3), (B h_14), (B h_20), (.tuple #[(B h_22), (B l_23)]), (B h_22), (B l_23), (.int .i64 3), undef, undef, undef, undef, undef, undef, undef], defers := [] } : Act) := haZ.trans (by kernel_rfl)
  subst eZ
  clear haZ
  replace RR : Hid (RB w w14 [(w.heap.size + 1 + 1 + 1, #[B l_1, B l_9, B l_17, B l_25]), (w.heap.size + 1 + 1, Zr), (w.heap.size + 1, #[B b0, B b1, B b2, B b3]), (w.heap.size, #[B a0, B a1, B a2, B a3])]) := ⟨F.bw, (RowsAt.cons (F.sk 11 rfl) (RowsAt.cons (F.row 2 rfl) (RowsAt.cons (F.row 1 rfl) (RowsAt.cons (F.row 0 rfl) RowsAt.nil))))⟩
  clear F qT q0 q1 q2 q3
  go_upto_region 8 with fail
  obtain ⟨q3, q2, q1, q0, qT⟩ := RR.out.r.lts
  refine wp_region_told (by kernel_rfl) (by kernel_rfl) (by kernel_rfl) [(w.heap.size, #[B a0, B a1, B a2, B a3]), (w.heap.size + 1, #[B b0, B b1, B b2, B b3]), (w.heap.size + 1 + 1, Zr), (w.heap.size + 1 + 1 + 1, #[B l_1, B l_9, B l_17, B l_25])]
    [sV (B a3),
     sV (PO (w.heap.size + 1) 1),
     sV (B b1),
     sV (B l_21),
     sV (B h_24),
     sV (.tuple #[(B h_26), (B l_27)]),
     sV (.tuple #[(B h_26), (B l_27)]),
     sV (B h_26),
     sV (B l_27),
     sV (B h_26),
     sV (B l_27)]
    (by kernel_rfl) RR.out.b (RowsAt.cons (RR.out.at 3 rfl) (RowsAt.cons (RR.out.at 2 rfl) (RowsAt.cons (RR.out.at 1 rfl) (RowsAt.cons (RR.out.at 0 rfl) RowsAt.nil)))) (StOk.of [] rfl StM.nil)
    (Obs.val (fun a' w' E => ob_move (.tmp 11) rfl (E.old 11 (by kernel_rfl)))
    (Obs.val (fun a' w' E => ob_indexAddr 24 (.tmp 3) (.const (.int .i64 1)) rfl (E.old 3 (by kernel_rfl)) (evc a' (.int .i64 1)) (ix24_1 _ _ w'))
    (Obs.val (fun a' w' E => ob_load1 22 (.tmp 30) rfl (E.new (v := (PO (w.heap.size + 1) 1)) 30 1 (by kernel_rfl) rfl) (E.row (g := w.heap.size + 1) (c := #[B b0, B b1, B b2, B b3]) 1 rfl) Tryd.underlying22 rfl rfl)
    (Obs.val (fun a' w' E => ob_move (.tmp 7) rfl (E.old 7 (by kernel_rfl)))
    (Obs.val (fun a' w' E => ob_move (.tmp 12) rfl (E.olds 12 9 (by kernel_rfl) (by kernel_rfl)))
    (Obs.val (fun a' w' E => ob_fcall 85 _ _ rfl (am4 (E.new (v := (B a3)) 29 0 (by kernel_rfl) rfl) (E.new (v := (B b1)) 31 2 (by kernel_rfl) rfl) (E.new (v := (B l_21)) 32 3 (by kernel_rfl) rfl) (E.new (v := (B h_24)) 33 4 (by kernel_rfl) rfl)) (fc85 _ _) (c14.out w'))
    (Obs.val (fun a' w' E => ob_move (.tmp 34) rfl (E.new (v := (.tuple #[(B h_26), (B l_27)])) 34 5 (by kernel_rfl) rfl))
    (Obs.val (fun a' w' E => ob_extract (.tmp 28) 0 rfl (E.new (v := (.tuple #[(B h_26), (B l_27)])) 28 6 (by kernel_rfl) rfl) rfl)
    (Obs.val (fun a' w' E => ob_extract (.tmp 28) 1 rfl (E.new (v := (.tuple #[(B h_26), (B l_27)])) 28 6 (by kernel_rfl) rfl) rfl)
    (Obs.val (fun a' w' E => ob_assign (.tmp 35) rfl (E.new (v := (B h_26)) 35 7 (by kernel_rfl) rfl))
    (Obs.val (fun a' w' E => ob_assign (.tmp 36) rfl (E.new (v := (B l_27)) 36 8 (by kernel_rfl) rfl))
    Obs.nil))))))))))) ?_
  intro bs w15 aZ haZ F
  have eZ : aZ = ({ tmps := #[(.agg #[B a0, B a1, B a2, B a3]), (.agg #[B b0, B b1, B b2, B b3]), (PT w.heap.size), (PT (w.heap.size + 1)), (PT (w.heap.size + 1 + 1)), (PT (w.heap.size + 1 + 1 + 1)), (B l_27), (B l_21), (B l_23), (B h_22), (.int .i64 3), (B a3), (B h_26), (.agg #[B a0, B a1, B a2, B a3]), (.int .i64 3), (.bool true), (.int .i64 3), (B a3), (.tuple #[(B h_24), (B l_25)]), (.int .i64 3), (B a3), (PT (w.heap.size + 1)), (B b0), (B l_19), (.tuple #[(B h_24), (B l_25)]), (B h_24), (B l_25), (PO (w.heap.size + 1 + 1 + 1) 3), (.tuple #[(B h_26), (B l_27)]), (B a3), (PO (w.heap.size + 1) 1), (B b1), (B l_21), (B h_24), (.tuple #[(B h_26), (B l_27)]), (B h_26), (B l_27), (.tuple #[(B h_20), (B l_21)]), (B a2), (PO (w.heap.size + 1) 2), (B b2), (B l_15), (B h_18), (.tuple #[(B h_20), (B l_21)]), (B h_20), (B l_21), (.tuple #[(B h_22), (B l_23)]), (B a2), (PO (w.heap.size + 1) 3), (B b3), (B h_14), (B h_20), (.tuple #[(B h_22), (B l_23)]), (B h_22), (B l_23), (.int .i64 3), undef, undef, undef, undef, undef, undef, undef], defers := [] } : Act) := haZ.trans (by kernel_rfl)
  subst eZ
  clear haZ
  replace RR : Hid (RB w w15 [(w.heap.size + 1 + 1 + 1, #[B l_1, B l_9, B l_17, B l_25]), (w.heap.size + 1 + 1, Zr), (w.heap.size + 1, #[B b0, B b1, B b2, B b3]), (w.heap.size, #[B a0, B a1, B a2, B a3])]) := ⟨F.bw, (RowsAt.cons (F.row 3 rfl) (RowsAt.cons (F.row 2 rfl) (RowsAt.cons (F.row 1 rfl) (RowsAt.cons (F.row 0 rfl) RowsAt.nil))))⟩
  clear F qT q0 q1 q2 q3
  go_upto_region 9 with fail
  obtain ⟨q3, q2, q1, q0, qT⟩ := RR.out.r.lts
  refine wp_region_told (by kernel_rfl) (by kernel_rfl) (by kernel_rfl) [(w.heap.size, #[B a0, B a1, B a2, B a3]), (w.heap.size + 1, #[B b0, B b1, B b2, B b3]), (w.heap.size + 1 + 1, Zr), (w.heap.size + 1 + 1 + 1, #[B l_1, B l_9, B l_17, B l_25])]
    [sV (B a3),
     sV (PO (w.heap.size + 1) 2),
     sV (B b2),
     sV (B l_23),
     sV (B h_26),
     sV (.tuple #[(B h_28), (B l_29)]),
     sV (.tuple #[(B h_28), (B l_29)]),
     sV (B h_28),
     sV (B l_29),
     sV (B h_28),
     sV (B l_29)]
    (by kernel_rfl) RR.out.b (RowsAt.cons (RR.out.at 3 rfl) (RowsAt.cons (RR.out.at 2 rfl) (RowsAt.cons (RR.out.at 1 rfl) (RowsAt.cons (RR.out.at 0 rfl) RowsAt.nil)))) (StOk.of [] rfl StM.nil)
    (Obs.val (fun a' w' E => ob_move (.tmp 11) rfl (E.old 11 (by kernel_rfl)))
    (Obs.val (fun a' w' E => ob_indexAddr 24 (.tmp 3) (.const (.int .i64 2)) rfl (E.old 3 (by kernel_rfl)) (evc a' (.int .i64 2)) (ix24_2 _ _ w'))
    (Obs.val (fun a' w' E => ob_load1 22 (.tmp 39) rfl (E.new (v := (PO (w.heap.size + 1) 2)) 39 1 (by kernel_rfl) rfl) (E.row (g := w.heap.size + 1) (c := #[B b0, B b1, B b2, B b3]) 1 rfl) Tryd.underlying22 rfl rfl)
    (Obs.val (fun a' w' E => ob_move (.tmp 8) rfl (E.old 8 (by kernel_rfl)))
    (Obs.val (fun a' w' E => ob_move (.tmp 12) rfl (E.olds 12 9 (by kernel_rfl) (by kernel_rfl)))
    (Obs.val (fun a' w' E => ob_fcall 85 _ _ rfl (am4 (E.new (v := (B a3)) 38 0 (by kernel_rfl) rfl) (E.new (v := (B b2)) 40 2 (by kernel_rfl) rfl) (E.new (v := (B l_23)) 41 3 (by kernel_rfl) rfl) (E.new (v := (B h_26)) 42 4 (by kernel_rfl) rfl)) (fc85 _ _) (c15.out w'))
    (Obs.val (fun a' w' E => ob_move (.tmp 43) rfl (E.new (v := (.tuple #[(B h_28), (B l_29)])) 43 5 (by kernel_rfl) rfl))
    (Obs.val (fun a' w' E => ob_extract (.tmp 37) 0 rfl (E.new (v := (.tuple #[(B h_28), (B l_29)])) 37 6 (by kernel_rfl) rfl) rfl)
    (Obs.val (fun a' w' E => ob_extract (.tmp 37) 1 rfl (E.new (v := (.tuple #[(B h_28), (B l_29)])) 37 6 (by kernel_rfl) rfl) rfl)
    (Obs.val (fun a' w' E => ob_assign (.tmp 44) rfl (E.new (v := (B h_28)) 44 7 (by kernel_rfl) rfl))
    (Obs.val (fun a' w' E => ob_assign (.tmp 45) rfl (E.new (v := (B l_29)) 45 8 (by kernel_rfl) rfl))
    Obs.nil))))))))))) ?_
  intro bs w16 aZ haZ F
  have eZ : aZ = ({ tmps := #[(.agg #[B a0, B a1, B a2, B a3]), (.agg #[B b0, B b1, B b2, B b3]), (PT w.heap.size), (PT (w.heap.size + 1)), (PT (w.heap.size + 1 + 1)), (PT (w.heap.size + 1 + 1 + 1)), (B l_27), (B l_29), (B l_23), (B h_22), (.int .i64 3), (B a3), (B h_28), (.agg #[B a0, B a1, B a2, B a3]), (.int .i64 3), (.bool true), (.int .i64 3), (B a3), (.tuple #[(B h_24), (B l_25)]), (.int .i64 3), (B a3), (PT (w.heap.size + 1)), (B b0), (B l_19), (.tuple #[(B h_24), (B l_25)]), (B h_24), (B l_25), (PO (w.heap.size + 1 + 1 + 1) 3), (.tuple #[(B h_26), (B l_27)]), (B a3), (PO (w.heap.size + 1) 1), (B b1), (B l_21), (B h_24), (.tuple #[(B h_26), (B l_27)]), (B h_26), (B l_27), (.tuple #[(B h_28), (B l_29)]), (B a3), (PO (w.heap.size + 1) 2), (B b2), (B l_23), (B h_26), (.tuple #[(B h_28), (B l_29)]), (B h_28), (B l_29), (.tuple #[(B h_22), (B l_23)]), (B a2), (PO (w.heap.size + 1) 3), (B b3), (B h_14), (B h_20), (.tuple #[(B h_22), (B l_23)]), (B h_22), (B l_23), (.int .i64 3), undef, undef, undef, undef, undef, undef, undef], defers := [] } : Act) := haZ.trans (by kernel_rfl)
  subst eZ
  clear haZ
  replace RR : Hid (RB w w16 [(w.heap.size + 1 + 1 + 1, #[B l_1, B l_9, B l_17, B l_25]), (w.heap.size + 1 + 1, Zr), (w.heap.size + 1, #[B b0, B b1, B b2, B b3]), (w.heap.size, #[B a0, B a1, B a2, B a3])]) := ⟨F.bw, (RowsAt.cons (F.row 3 rfl) (RowsAt.cons (F.row 2 rfl) (RowsAt.cons (F.row 1 rfl) (RowsAt.cons (F.row 0 rfl) RowsAt.nil))))⟩
  clear F qT q0 q1 q2 q3
  go_upto_region 10 with fail
  obtain ⟨q3, q2, q1, q0, qT⟩ := RR.out.r.lts
  refine wp_region_told (by kernel_rfl) (by kernel_rfl) (by kernel_rfl) [(w.heap.size, #[B a0, B a1, B a2, B a3]), (w.heap.size + 1, #[B b0, B b1, B b2, B b3]), (w.heap.size + 1 + 1, Zr), (w.heap.size + 1 + 1 + 1, #[B l_1, B l_9, B l_17, B l_25])]
    [sV (B a3),
     sV (PO (w.heap.size + 1) 3),
     sV (B b3),
     sV (B h_22),
     sV (B h_28),
     sV (.tuple #[(B h_30), (B l_31)]),
     sV (.tuple #[(B h_30), (B l_31)]),
     sV (B h_30),
     sV (B l_31),
     sV (B h_30),
     sV (B l_31)]
    (by kernel_rfl) RR.out.b (RowsAt.cons (RR.out.at 3 rfl) (RowsAt.cons (RR.out.at 2 rfl) (RowsAt.cons (RR.out.at 1 rfl) (RowsAt.cons (RR.out.at 0 rfl) RowsAt.nil)))) (StOk.of [] rfl StM.nil)
    (Obs.val (fun a' w' E => ob_move (.tmp 11) rfl (E.old 11 (by kernel_rfl)))
    (Obs.val (fun a' w' E => ob_indexAddr 24 (.tmp 3) (.const (.int .i64 3)) rfl (E.old 3 (by kernel_rfl)) (evc a' (.int .i64 3)) (ix24_3 _ _ w'))
    (Obs.val (fun a' w' E => ob_load1 22 (.tmp 48) rfl (E.new (v := (PO (w.heap.size + 1) 3)) 48 1 (by kernel_rfl) rfl) (E.row (g := w.heap.size + 1) (c := #[B b0, B b1, B b2, B b3]) 1 rfl) Tryd.underlying22 rfl rfl)
    (Obs.val (fun a' w' E => ob_move (.tmp 9) rfl (E.olds 9 9 (by kernel_rfl) (by kernel_rfl)))
    (Obs.val (fun a' w' E => ob_move (.tmp 12) rfl (E.old 12 (by kernel_rfl)))
    (Obs.val (fun a' w' E => ob_fcall 85 _ _ rfl (am4 (E.new (v := (B a3)) 47 0 (by kernel_rfl) rfl) (E.new (v := (B b3)) 49 2 (by kernel_rfl) rfl) (E.new (v := (B h_22)) 50 3 (by kernel_rfl) rfl) (E.new (v := (B h_28)) 51 4 (by kernel_rfl) rfl)) (fc85 _ _) (c16.out w'))
    (Obs.val (fun a' w' E => ob_move (.tmp 52) rfl (E.new (v := (.tuple #[(B h_30), (B l_31)])) 52 5 (by kernel_rfl) rfl))
    (Obs.val (fun a' w' E => ob_extract (.tmp 46) 0 rfl (E.new (v := (.tuple #[(B h_30), (B l_31)])) 46 6 (by kernel_rfl) rfl) rfl)
    (Obs.val (fun a' w' E => ob_extract (.tmp 46) 1 rfl (E.new (v := (.tuple #[(B h_30), (B l_31)])) 46 6 (by kernel_rfl) rfl) rfl)
    (Obs.val (fun a' w' E => ob_assign (.tmp 53) rfl (E.new (v := (B h_30)) 53 7 (by kernel_rfl) rfl))
    (Obs.val (fun a' w' E => ob_assign (.tmp 54) rfl (E.new (v := (B l_31)) 54 8 (by kernel_rfl) rfl))
    Obs.nil))))))))))) ?_
  intro bs w17 aZ haZ F
  have eZ : aZ = ({ tmps := #[(.agg #[B a0, B a1, B a2, B a3]), (.agg #[B b0, B b1, B b2, B b3]), (PT w.heap.size), (PT (w.heap.size + 1)), (PT (w.heap.size + 1 + 1)), (PT (w.heap.size + 1 + 1 + 1)), (B l_27), (B l_29), (B l_31), (B h_30), (.int .i64 3), (B a3), (B h_28), (.agg #[B a0, B a1, B a2, B a3]), (.int .i64 3), (.bool true), (.int .i64 3), (B a3), (.tuple #[(B h_24), (B l_25)]), (.int .i64 3), (B a3), (PT (w.heap.size + 1)), (B b0), (B l_19), (.tuple #[(B h_24), (B l_25)]), (B h_24), (B l_25), (PO (w.heap.size + 1 + 1 + 1) 3), (.tuple #[(B h_26), (B l_27)]), (B a3), (PO (w.heap.size + 1) 1), (B b1), (B l_21), (B h_24), (.tuple #[(B h_26), (B l_27)]), (B h_26), (B l_27), (.tuple #[(B h_28), (B l_29)]), (B a3), (PO (w.heap.size + 1) 2), (B b2), (B l_23), (B h_26), (.tuple #[(B h_28), (B l_29)]), (B h_28), (B l_29), (.tuple #[(B h_30), (B l_31)]), (B a3), (PO (w.heap.size + 1) 3), (B b3), (B h_22), (B h_28), (.tuple #[(B h_30), (B l_31)]), (B h_30), (B l_31), (.int .i64 3), undef, undef, undef, undef, undef, undef, undef], defers := [] } : Act) := haZ.trans (by kernel_rfl)
  subst eZ
  clear haZ
  replace RR : Hid (RB w w17 [(w.heap.size + 1 + 1 + 1, #[B l_1, B l_9, B l_17, B l_25]), (w.heap.size + 1 + 1, Zr), (w.heap.size + 1, #[B b0, B b1, B b2, B b3]), (w.heap.size, #[B a0, B a1, B a2, B a3])]) := ⟨F.bw, (RowsAt.cons (F.row 3 rfl) (RowsAt.cons (F.row 2 rfl) (RowsAt.cons (F.row 1 rfl) (RowsAt.cons (F.row 0 rfl) RowsAt.nil))))⟩
  clear F qT q0 q1 q2 q3
  go_wp2
  rw [rounds_succ]
  go_upto_region 12 with fail
  obtain ⟨q3, q2, q1, q0, qT⟩ := RR.out.r.lts
  refine wp_region_told (by kernel_rfl) (by kernel_rfl) (by kernel_rfl) [(w.heap.size, #[B a0, B a1, B a2, B a3]), (w.heap.size + 1, #[B b0, B b1, B b2, B b3]), (w.heap.size + 1 + 1 + 1, #[B l_1, B l_9, B l_17, B l_25])]
    [sV (B l_27),
     sV (B l_29),
     sV (B l_31),
     sV (B h_30),
     sV (.agg #[B l_27, B l_29, B l_31, B h_30]),
     sV (.agg #[B l_1, B l_9, B l_17, B l_25]),
     sV (.agg #[B q_32, B q_33, B q_34, B q_35]),
     sK (w.heap.size + 1 + 1) Zr #[B q_32, B q_33, B q_34, B q_35]]
    (by kernel_rfl) RR.out.b (RowsAt.cons (RR.out.at 3 rfl) (RowsAt.cons (RR.out.at 2 rfl) (RowsAt.cons (RR.out.at 0 rfl) RowsAt.nil))) (StOk.of [(w.heap.size + 1 + 1, Zr)] rfl (StM.cons (RR.out.at 1 rfl) (by omega) (Apart.cons (by omega) (Apart.cons (by omega) (Apart.cons (by omega) Apart.nil))) Apart.nil StM.nil))
    (Obs.val (fun a' w' E => ob_move (.tmp 6) rfl (E.old 6 (by kernel_rfl)))
    (Obs.val (fun a' w' E => ob_move (.tmp 7) rfl (E.old 7 (by kernel_rfl)))
    (Obs.val (fun a' w' E => ob_move (.tmp 8) rfl (E.old 8 (by kernel_rfl)))
    (Obs.val (fun a' w' E => ob_move (.tmp 9) rfl (E.old 9 (by kernel_rfl)))
    (Obs.val (fun a' w' E => ob_build 24 _ rfl (pm4 (E.new (v := (B l_27)) 56 0 (by kernel_rfl) rfl) (E.new (v := (B l_29)) 57 1 (by kernel_rfl) rfl) (E.new (v := (B l_31)) 58 2 (by kernel_rfl) rfl) (E.new (v := (B h_30)) 59 3 (by kernel_rfl) rfl)) (bd24_0i_1i_2i_3i _ _ _ _ w'))
    (Obs.val (fun a' w' E => ob_loada 24 (.tmp 5) rfl (E.old 5 (by kernel_rfl)) (E.row (g := w.heap.size + 1 + 1 + 1) (c := #[B l_1, B l_9, B l_17, B l_25]) 2 rfl) Tryd.underlying24 rfl (by kernel_rfl) rfl)
    (Obs.val (fun a' w' E => ob_fcall 86 _ _ rfl (am2 (E.new (v := (.agg #[B l_27, B l_29, B l_31, B h_30])) 60 4 (by kernel_rfl) rfl) (E.new (v := (.agg #[B l_1, B l_9, B l_17, B l_25])) 61 5 (by kernel_rfl) rfl)) (fc86 _ _) (c17.out w'))
    (Obs.stk (fun a' w' E hr => ob_storea 24 (.tmp 4) (.tmp 62) rfl (E.old 4 (by kernel_rfl)) (E.new (v := (.agg #[B q_32, B q_33, B q_34, B q_35])) 62 6 (by kernel_rfl) rfl) rfl hr (by kernel_rfl) (Nat.le_of_ble_eq_true rfl) (by kernel_rfl) rfl)
    Obs.nil)))))))) ?_
  intro bs w18 aZ haZ F
  have eZ : aZ = ({ tmps := #[(.agg #[B a0, B a1, B a2, B a3]), (.agg #[B b0, B b1, B b2, B b3]), (PT w.heap.size), (PT (w.heap.size + 1)), (PT (w.heap.size + 1 + 1)), (PT (w.heap.size + 1 + 1 + 1)), (B l_27), (B l_29), (B l_31), (B h_30), (.int .i64 3), (B a3), (B h_28), (.agg #[B a0, B a1, B a2, B a3]), (.int .i64 4), (.bool false), (.int .i64 3), (B a3), (.tuple #[(B h_24), (B l_25)]), (.int .i64 3), (B a3), (PT (w.heap.size + 1)), (B b0), (B l_19), (.tuple #[(B h_24), (B l_25)]), (B h_24), (B l_25), (PO (w.heap.size + 1 + 1 + 1) 3), (.tuple #[(B h_26), (B l_27)]), (B a3), (PO (w.heap.size + 1) 1), (B b1), (B l_21), (B h_24), (.tuple #[(B h_26), (B l_27)]), (B h_26), (B l_27), (.tuple #[(B h_28), (B l_29)]), (B a3), (PO (w.heap.size + 1) 2), (B b2), (B l_23), (B h_26), (.tuple #[(B h_28), (B l_29)]), (B h_28), (B l_29), (.tuple #[(B h_30), (B l_31)]), (B a3), (PO (w.heap.size + 1) 3), (B b3), (B h_22), (B h_28), (.tuple #[(B h_30), (B l_31)]), (B h_30), (B l_31), (.int .i64 4), (B l_27), (B l_29), (B l_31), (B h_30), (.agg #[B l_27, B l_29, B l_31, B h_30]), (.agg #[B l_1, B l_9, B l_17, B l_25]), (.agg #[B q_32, B q_33, B q_34, B q_35])], defers := [] } : Act) := haZ.trans (by kernel_rfl)
  subst eZ
  clear haZ
  replace RR : Hid (RB w w18 [(w.heap.size + 1 + 1 + 1, #[B l_1, B l_9, B l_17, B l_25]), (w.heap.size + 1 + 1, #[B q_32, B q_33, B q_34, B q_35]), (w.heap.size + 1, #[B b0, B b1, B b2, B b3]), (w.heap.size, #[B a0, B a1, B a2, B a3])]) := ⟨F.bw, (RowsAt.cons (F.row 2 rfl) (RowsAt.cons (F.sk 7 rfl) (RowsAt.cons (F.row 1 rfl) (RowsAt.cons (F.row 0 rfl) RowsAt.nil))))⟩
  clear F qT q0 q1 q2 q3
  go_wp2
  exact bodyPost_ret (v := (.agg #[B q_32, B q_33, B q_34, B q_35])) (resA (p := 4) (ty := 24) rfl (g := w.heap.size + 1 + 1) rfl (RR.out.at 1 rfl) Tryd.underlying24 rfl (by kernel_rfl)) rfl ⟨rfl, RR.out.b⟩
end Go.Proofs.YtpdoonofipcbeaaDoor
