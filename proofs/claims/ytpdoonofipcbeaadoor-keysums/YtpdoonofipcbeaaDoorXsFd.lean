/- Raw walks of the document's numbers by the prime, over letters. -/
import Derived.Test.YtpdoonofipcbeaaDoorXsBa
import Derived.Test.YtpdoonofipcbeaaDoorXsQc
import Derived.Test.YtpdoonofipcbeaaDoorXsEq
import Derived.WalkSmall
import Derived.Deep.Cut
import Derived.Deep.Light
namespace Go.Proofs.YtpdoonofipcbeaaDoor
open Go.RowKit Go.Sort
set_option linter.unusedVariables false
set_option maxRecDepth 100000 in
set_option maxHeartbeats 4000000 in
theorem rprime_raw 
    (w : World) : Calls Tryd.prog 35 #[] w fun e w' => e = .returned (.agg #[.int .u64 18446744069414583343, .int .u64 18446744073709551615, .int .u64 18446744073709551615, .int .u64 18446744073709551615]) ∧ Below w.heap.size w w' := by
  go_enter Tryd.func35, Tryd.ntmps35
  go_upto_region 1 with fail
  refine name_world _ ?_
  intro wF hF0
  have RR : Hid (RB w wF [(w.heap.size, Zr)]) := by rw [hF0]; exact (rbN (rb0 w) (by simp))
  clear hF0
  obtain ⟨q0, qT⟩ := RR.out.r.lts
  refine wp_region_told (by kernel_rfl) (by kernel_rfl) (by kernel_rfl) []
    [sV (.agg #[.int .u64 18446744069414583343, .int .u64 18446744073709551615, .int .u64 18446744073709551615, .int .u64 18446744073709551615]),
     sK (w.heap.size) Zr #[.int .u64 18446744069414583343, .int .u64 18446744073709551615, .int .u64 18446744073709551615, .int .u64 18446744073709551615]]
    (by kernel_rfl) RR.out.b RowsAt.nil (StOk.of [(w.heap.size, Zr)] rfl (StM.cons (RR.out.at 0 rfl) (by omega) Apart.nil Apart.nil StM.nil))
    (Obs.val (fun a' w' E => ob_build 24 _ rfl (pm4 (evc a' (.int .u64 18446744069414583343)) (evc a' (.int .u64 18446744073709551615)) (evc a' (.int .u64 18446744073709551615)) (evc a' (.int .u64 18446744073709551615))) (bd24_0i_1i_2i_3i _ _ _ _ w'))
    (Obs.stk (fun a' w' E hr => ob_storea 24 (.tmp 0) (.tmp 1) rfl (E.old 0 (by kernel_rfl)) (E.new (v := (.agg #[.int .u64 18446744069414583343, .int .u64 18446744073709551615, .int .u64 18446744073709551615, .int .u64 18446744073709551615])) 1 0 (by kernel_rfl) rfl) rfl hr (by kernel_rfl) (Nat.le_of_ble_eq_true rfl) (by kernel_rfl) rfl)
    Obs.nil)) ?_
  intro bs w1 aZ haZ F
  have eZ : aZ = ({ tmps := #[(PT w.heap.size), (.agg #[.int .u64 18446744069414583343, .int .u64 18446744073709551615, .int .u64 18446744073709551615, .int .u64 18446744073709551615])], defers := [] } : Act) := haZ.trans (by kernel_rfl)
  subst eZ
  clear haZ
  replace RR : Hid (RB w w1 [(w.heap.size, #[.int .u64 18446744069414583343, .int .u64 18446744073709551615, .int .u64 18446744073709551615, .int .u64 18446744073709551615])]) := ⟨F.bw, (RowsAt.cons (F.sk 1 rfl) RowsAt.nil)⟩
  clear F qT q0
  clear wF
  go_wp2
  exact bodyPost_ret (v := (.agg #[.int .u64 18446744069414583343, .int .u64 18446744073709551615, .int .u64 18446744073709551615, .int .u64 18446744073709551615])) (resA (p := 0) (ty := 24) rfl (g := w.heap.size) rfl (RR.out.at 0 rfl) Tryd.underlying24 rfl (by kernel_rfl)) rfl ⟨rfl, RR.out.b⟩
set_option maxRecDepth 100000 in
set_option maxHeartbeats 4000000 in
theorem rorder_raw 
    (w : World) : Calls Tryd.prog 20 #[] w fun e w' => e = .returned (.agg #[.int .u64 13822214165235122497, .int .u64 13451932020343611451, .int .u64 18446744073709551614, .int .u64 18446744073709551615]) ∧ Below w.heap.size w w' := by
  go_enter Tryd.func20, Tryd.ntmps20
  go_upto_region 1 with fail
  refine name_world _ ?_
  intro wF hF0
  have RR : Hid (RB w wF [(w.heap.size, Zr)]) := by rw [hF0]; exact (rbN (rb0 w) (by simp))
  clear hF0
  obtain ⟨q0, qT⟩ := RR.out.r.lts
  refine wp_region_told (by kernel_rfl) (by kernel_rfl) (by kernel_rfl) []
    [sV (.agg #[.int .u64 13822214165235122497, .int .u64 13451932020343611451, .int .u64 18446744073709551614, .int .u64 18446744073709551615]),
     sK (w.heap.size) Zr #[.int .u64 13822214165235122497, .int .u64 13451932020343611451, .int .u64 18446744073709551614, .int .u64 18446744073709551615]]
    (by kernel_rfl) RR.out.b RowsAt.nil (StOk.of [(w.heap.size, Zr)] rfl (StM.cons (RR.out.at 0 rfl) (by omega) Apart.nil Apart.nil StM.nil))
    (Obs.val (fun a' w' E => ob_build 24 _ rfl (pm4 (evc a' (.int .u64 13822214165235122497)) (evc a' (.int .u64 13451932020343611451)) (evc a' (.int .u64 18446744073709551614)) (evc a' (.int .u64 18446744073709551615))) (bd24_0i_1i_2i_3i _ _ _ _ w'))
    (Obs.stk (fun a' w' E hr => ob_storea 24 (.tmp 0) (.tmp 1) rfl (E.old 0 (by kernel_rfl)) (E.new (v := (.agg #[.int .u64 13822214165235122497, .int .u64 13451932020343611451, .int .u64 18446744073709551614, .int .u64 18446744073709551615])) 1 0 (by kernel_rfl) rfl) rfl hr (by kernel_rfl) (Nat.le_of_ble_eq_true rfl) (by kernel_rfl) rfl)
    Obs.nil)) ?_
  intro bs w1 aZ haZ F
  have eZ : aZ = ({ tmps := #[(PT w.heap.size), (.agg #[.int .u64 13822214165235122497, .int .u64 13451932020343611451, .int .u64 18446744073709551614, .int .u64 18446744073709551615])], defers := [] } : Act) := haZ.trans (by kernel_rfl)
  subst eZ
  clear haZ
  replace RR : Hid (RB w w1 [(w.heap.size, #[.int .u64 13822214165235122497, .int .u64 13451932020343611451, .int .u64 18446744073709551614, .int .u64 18446744073709551615])]) := ⟨F.bw, (RowsAt.cons (F.sk 1 rfl) RowsAt.nil)⟩
  clear F qT q0
  clear wF
  go_wp2
  exact bodyPost_ret (v := (.agg #[.int .u64 13822214165235122497, .int .u64 13451932020343611451, .int .u64 18446744073709551614, .int .u64 18446744073709551615])) (resA (p := 0) (ty := 24) rfl (g := w.heap.size) rfl (RR.out.at 0 rfl) Tryd.underlying24 rfl (by kernel_rfl)) rfl ⟨rfl, RR.out.b⟩
set_option maxRecDepth 100000 in
set_option maxHeartbeats 4000000 in
theorem rtimes_raw (x y : Nat) {h_0 h_1 h_2 h_3 l_4 l_5 l_6 l_7 h_8 l_9 s_10 c_11 s_12 c_13 u_14 u_15 h_16 l_17 s_18 c_19 s_20 c_21 u_22 u_23 h_24 l_25 s_26 c_27 s_28 c_29 u_30 u_31 h_32 l_33 s_34 c_35 s_36 c_37 u_38 u_39 h_40 l_41 s_42 s_44 p_46 s_47 p_49 s_50 : Nat} {q_43 q_45 q_48 q_51 : Bool}
    (c1 : Does 56 #[(U x), (U y)] (.tuple #[(.agg #[B h_0, B h_1, B h_2, B h_3]), (.agg #[B l_4, B l_5, B l_6, B l_7])]))
    (c2 : Does 57 #[(B h_0), (.int .u64 4294968273)] (.tuple #[(B h_8), (B l_9)]))
    (c3 : XDoes 44 #[(B l_4), (B l_9), (.int .u64 0)] (.tuple #[(B s_10), (B c_11)]))
    (c4 : XDoes 44 #[(B s_10), (.int .u64 0), (.int .u64 0)] (.tuple #[(B s_12), (B c_13)]))
    (e5 : IntKind.u64.wrap ((h_8 : Int) + (c_11 : Int)) = (u_14 : Int))
    (e6 : IntKind.u64.wrap ((u_14 : Int) + (c_13 : Int)) = (u_15 : Int))
    (c7 : Does 57 #[(B h_1), (.int .u64 4294968273)] (.tuple #[(B h_16), (B l_17)]))
    (c8 : XDoes 44 #[(B l_5), (B l_17), (.int .u64 0)] (.tuple #[(B s_18), (B c_19)]))
    (c9 : XDoes 44 #[(B s_18), (B u_15), (.int .u64 0)] (.tuple #[(B s_20), (B c_21)]))
    (e10 : IntKind.u64.wrap ((h_16 : Int) + (c_19 : Int)) = (u_22 : Int))
    (e11 : IntKind.u64.wrap ((u_22 : Int) + (c_21 : Int)) = (u_23 : Int))
    (c12 : Does 57 #[(B h_2), (.int .u64 4294968273)] (.tuple #[(B h_24), (B l_25)]))
    (c13 : XDoes 44 #[(B l_6), (B l_25), (.int .u64 0)] (.tuple #[(B s_26), (B c_27)]))
    (c14 : XDoes 44 #[(B s_26), (B u_23), (.int .u64 0)] (.tuple #[(B s_28), (B c_29)]))
    (e15 : IntKind.u64.wrap ((h_24 : Int) + (c_27 : Int)) = (u_30 : Int))
    (e16 : IntKind.u64.wrap ((u_30 : Int) + (c_29 : Int)) = (u_31 : Int))
    (c17 : Does 57 #[(B h_3), (.int .u64 4294968273)] (.tuple #[(B h_32), (B l_33)]))
    (c18 : XDoes 44 #[(B l_7), (B l_33), (.int .u64 0)] (.tuple #[(B s_34), (B c_35)]))
    (c19 : XDoes 44 #[(B s_34), (B u_31), (.int .u64 0)] (.tuple #[(B s_36), (B c_37)]))
    (e20 : IntKind.u64.wrap ((h_32 : Int) + (c_35 : Int)) = (u_38 : Int))
    (e21 : IntKind.u64.wrap ((u_38 : Int) + (c_37 : Int)) = (u_39 : Int))
    (c22 : Does 57 #[(B u_39), (.int .u64 4294968273)] (.tuple #[(B h_40), (B l_41)]))
    (c23 : Does 22 #[(.agg #[B s_12, B s_20, B s_28, B s_36]), (.agg #[B l_41, B h_40, .int .u64 0, .int .u64 0])] (.tuple #[(U s_42), (.bool q_43)]))
    (c24 : q_43 = true → Does 22 #[(U s_42), (U 4294968273)] (.tuple #[(U s_44), (.bool q_45)]))
    (c25 : q_43 = true → Does 35 #[] (U p_46))
    (c26 : q_43 = true → Does 19 #[(U s_44), (U p_46)] (.tuple #[(U s_47), (.bool q_48)]))
    (c27 : q_43 = false → Does 35 #[] (U p_49))
    (c28 : q_43 = false → Does 19 #[(U s_42), (U p_49)] (.tuple #[(U s_50), (.bool q_51)]))
    (w : World) : Calls Tryd.prog 36 #[(U x), (U y)] w fun e w' => e = .returned (cond q_43 (cond q_48 (U s_44) (U s_47)) (cond q_51 (U s_42) (U s_50))) ∧ Below w.heap.size w w' := by
  go_enter Tryd.func36, Tryd.ntmps36
  go_upto_region 2 with fail
  refine name_world _ ?_
  intro wF hF0
  have RR : Hid (RB w wF [(w.heap.size + 1 + 1, Zr), (w.heap.size + 1, (Ar y)), (w.heap.size, (Ar x))]) := by rw [hF0]; exact (rbN (rbN (rbN (rb0 w) (by simp)) (by simp)) (by simp))
  clear hF0
  obtain ⟨q2, q1, q0, qT⟩ := RR.out.r.lts
  refine wp_region_told (by kernel_rfl) (by kernel_rfl) (by kernel_rfl) [(w.heap.size, (Ar x)), (w.heap.size + 1, (Ar y)), (w.heap.size + 1 + 1, Zr)]
    [sV (U x),
     sV (U y),
     sV (.tuple #[(.agg #[B h_0, B h_1, B h_2, B h_3]), (.agg #[B l_4, B l_5, B l_6, B l_7])]),
     sV (.tuple #[(.agg #[B h_0, B h_1, B h_2, B h_3]), (.agg #[B l_4, B l_5, B l_6, B l_7])]),
     sV (.agg #[B h_0, B h_1, B h_2, B h_3]),
     sV (.agg #[B l_4, B l_5, B l_6, B l_7]),
     sA (fun g => .pointer (some ⟨g, 0, none⟩)) 8 Zr #[B h_0, B h_1, B h_2, B h_3],
     sA (fun g => .pointer (some ⟨g, 0, none⟩)) 9 Zr #[B l_4, B l_5, B l_6, B l_7],
     sS 6,
     sS 7]
    (by kernel_rfl) RR.out.b (RowsAt.cons (RR.out.at 2 rfl) (RowsAt.cons (RR.out.at 1 rfl) (RowsAt.cons (RR.out.at 0 rfl) RowsAt.nil))) (StOk.of [] rfl StM.nil)
    (Obs.val (fun a' w' E => ob_loada 24 (.tmp 2) rfl (E.old 2 (by kernel_rfl)) (E.row (g := w.heap.size) (c := (Ar x)) 0 rfl) Tryd.underlying24 rfl (by kernel_rfl) rfl)
    (Obs.val (fun a' w' E => ob_loada 24 (.tmp 3) rfl (E.old 3 (by kernel_rfl)) (E.row (g := w.heap.size + 1) (c := (Ar y)) 1 rfl) Tryd.underlying24 rfl (by kernel_rfl) rfl)
    (Obs.val (fun a' w' E => ob_fcall 56 _ _ rfl (am2 (E.new (v := (U x)) 23 0 (by kernel_rfl) rfl) (E.new (v := (U y)) 24 1 (by kernel_rfl) rfl)) (fc56 _ _) (c1.out w'))
    (Obs.val (fun a' w' E => ob_move (.tmp 25) rfl (E.new (v := (.tuple #[(.agg #[B h_0, B h_1, B h_2, B h_3]), (.agg #[B l_4, B l_5, B l_6, B l_7])])) 25 2 (by kernel_rfl) rfl))
    (Obs.val (fun a' w' E => ob_extract (.tmp 22) 0 rfl (E.new (v := (.tuple #[(.agg #[B h_0, B h_1, B h_2, B h_3]), (.agg #[B l_4, B l_5, B l_6, B l_7])])) 22 3 (by kernel_rfl) rfl) rfl)
    (Obs.val (fun a' w' E => ob_extract (.tmp 22) 1 rfl (E.new (v := (.tuple #[(.agg #[B h_0, B h_1, B h_2, B h_3]), (.agg #[B l_4, B l_5, B l_6, B l_7])])) 22 3 (by kernel_rfl) rfl) rfl)
    (Obs.alloc (fun a' w' E => ob_alloc (t := 24) (by simp [opAt, execOp, go_sem]))
    (Obs.alloc (fun a' w' E => ob_alloc (t := 24) (by simp [opAt, execOp, go_sem]))
    (Obs.sta rfl (fun a' w' g E ha hr => ob_storea 24 (.tmp 6) (.tmp 26) rfl (ha 6 (by kernel_rfl)) (E.new (v := (.agg #[B h_0, B h_1, B h_2, B h_3])) 26 4 (by kernel_rfl) rfl) rfl hr (by kernel_rfl) (Nat.le_of_ble_eq_true rfl) (by kernel_rfl) rfl)
    (Obs.sta rfl (fun a' w' g E ha hr => ob_storea 24 (.tmp 7) (.tmp 27) rfl (ha 7 (by kernel_rfl)) (E.new (v := (.agg #[B l_4, B l_5, B l_6, B l_7])) 27 5 (by kernel_rfl) rfl) rfl hr (by kernel_rfl) (Nat.le_of_ble_eq_true rfl) (by kernel_rfl) rfl)
    Obs.nil)))))))))) ?_
  intro bs w1 aZ haZ F
  have eZ : aZ = ({ tmps := #[(U x), (U y), (PT w.heap.size), (PT (w.heap.size + 1)), (PT (w.heap.size + 1 + 1)), (.int .u64 4294968273), (PT ((bs 6))), (PT ((bs 7))), undef, undef, undef, undef, undef, undef, undef, undef, undef, undef, undef, undef, undef, undef, (.tuple #[(.agg #[B h_0, B h_1, B h_2, B h_3]), (.agg #[B l_4, B l_5, B l_6, B l_7])]), (U x), (U y), (.tuple #[(.agg #[B h_0, B h_1, B h_2, B h_3]), (.agg #[B l_4, B l_5, B l_6, B l_7])]), (.agg #[B h_0, B h_1, B h_2, B h_3]), (.agg #[B l_4, B l_5, B l_6, B l_7]), undef, undef, undef, undef, undef, undef, undef, undef, undef, undef, undef, undef, undef, undef, undef, undef, undef, undef, undef, undef, undef, undef, undef, undef, undef, undef, undef, undef, undef, undef, undef, undef, undef, undef, undef, undef, undef, undef, undef, undef, undef, undef, undef, undef, undef, undef, undef, undef, undef, undef, undef, undef, undef, undef, undef, undef, undef, undef, undef, undef, undef, undef, undef, undef, undef], defers := [] } : Act) := haZ.trans (by kernel_rfl)
  subst eZ
  clear haZ
  obtain ⟨h6, X6⟩ := F.al 6 rfl rfl
  obtain ⟨h7, X7⟩ := F.al 7 rfl rfl
  have n1_6_7 := F.ne 6 7 (by decide) rfl rfl
  replace RR : Hid (RB w w1 [((bs 7), #[B l_4, B l_5, B l_6, B l_7]), ((bs 6), #[B h_0, B h_1, B h_2, B h_3]), (w.heap.size + 1 + 1, Zr), (w.heap.size + 1, (Ar y)), (w.heap.size, (Ar x))]) := ⟨F.bw, (RowsAt.cons X7 (RowsAt.cons X6 (RowsAt.cons (F.row 2 rfl) (RowsAt.cons (F.row 1 rfl) (RowsAt.cons (F.row 0 rfl) RowsAt.nil)))))⟩
  generalize bs 6 = g1_6 at *
  generalize bs 7 = g1_7 at *
  have k1_6_0 := Nat.lt_of_lt_of_le q0 h6
  have k1_6_1 := Nat.lt_of_lt_of_le q1 h6
  have k1_6_2 := Nat.lt_of_lt_of_le q2 h6
  have k1_7_0 := Nat.lt_of_lt_of_le q0 h7
  have k1_7_1 := Nat.lt_of_lt_of_le q1 h7
  have k1_7_2 := Nat.lt_of_lt_of_le q2 h7
  clear F qT q0 q1 q2 h6 X6 h7 X7
  clear wF
  go_wp2
  refine wp_loop_rounds 5 ?_
  rw [rounds_succ]
  go_upto_region 7 with fail
  obtain ⟨q4, q3, q2, q1, q0, qT⟩ := RR.out.r.lts
  refine wp_region_told (by kernel_rfl) (by kernel_rfl) (by kernel_rfl) [(w.heap.size, (Ar x)), (w.heap.size + 1, (Ar y)), (w.heap.size + 1 + 1, Zr), (g1_6, #[B h_0, B h_1, B h_2, B h_3]), (g1_7, #[B l_4, B l_5, B l_6, B l_7])]
    [sV (.int .i64 0),
     sV (PT g1_6),
     sV (B h_0),
     sV (.int .u64 4294968273),
     sV (.tuple #[(B h_8), (B l_9)]),
     sV (.tuple #[(B h_8), (B l_9)]),
     sV (B h_8),
     sV (B l_9),
     sV (B h_8),
     sV (B l_9)]
    (by kernel_rfl) RR.out.b (RowsAt.cons (RR.out.at 4 rfl) (RowsAt.cons (RR.out.at 3 rfl) (RowsAt.cons (RR.out.at 2 rfl) (RowsAt.cons (RR.out.at 1 rfl) (RowsAt.cons (RR.out.at 0 rfl) RowsAt.nil))))) (StOk.of [] rfl StM.nil)
    (Obs.val (fun a' w' E => ob_move (.tmp 9) rfl (E.old 9 (by kernel_rfl)))
    (Obs.val (fun a' w' E => ob_indexAddr 24 (.tmp 6) (.tmp 33) rfl (E.old 6 (by kernel_rfl)) (E.new (v := (.int .i64 0)) 33 0 (by kernel_rfl) rfl) (ix24_0 _ _ w'))
    (Obs.val (fun a' w' E => ob_load1 22 (.tmp 34) rfl (E.new (v := (PT g1_6)) 34 1 (by kernel_rfl) rfl) (E.row (g := g1_6) (c := #[B h_0, B h_1, B h_2, B h_3]) 3 rfl) Tryd.underlying22 rfl rfl)
    (Obs.val (fun a' w' E => ob_move (.tmp 5) rfl (E.old 5 (by kernel_rfl)))
    (Obs.val (fun a' w' E => ob_fcall 57 _ _ rfl (am2 (E.new (v := (B h_0)) 35 2 (by kernel_rfl) rfl) (E.new (v := (.int .u64 4294968273)) 36 3 (by kernel_rfl) rfl)) (fc57 _ _) (c2.out w'))
    (Obs.val (fun a' w' E => ob_move (.tmp 37) rfl (E.new (v := (.tuple #[(B h_8), (B l_9)])) 37 4 (by kernel_rfl) rfl))
    (Obs.val (fun a' w' E => ob_extract (.tmp 32) 0 rfl (E.new (v := (.tuple #[(B h_8), (B l_9)])) 32 5 (by kernel_rfl) rfl) rfl)
    (Obs.val (fun a' w' E => ob_extract (.tmp 32) 1 rfl (E.new (v := (.tuple #[(B h_8), (B l_9)])) 32 5 (by kernel_rfl) rfl) rfl)
    (Obs.val (fun a' w' E => ob_assign (.tmp 38) rfl (E.new (v := (B h_8)) 38 6 (by kernel_rfl) rfl))
    (Obs.val (fun a' w' E => ob_assign (.tmp 39) rfl (E.new (v := (B l_9)) 39 7 (by kernel_rfl) rfl))
    Obs.nil)))))))))) ?_
  intro bs w2 aZ haZ F
  have eZ : aZ = ({ tmps := #[(U x), (U y), (PT w.heap.size), (PT (w.heap.size + 1)), (PT (w.heap.size + 1 + 1)), (.int .u64 4294968273), (PT g1_6), (PT g1_7), (.int .u64 0), (.int .i64 0), (B h_8), (B l_9), undef, undef, undef, undef, undef, undef, undef, undef, undef, undef, (.tuple #[(.agg #[B h_0, B h_1, B h_2, B h_3]), (.agg #[B l_4, B l_5, B l_6, B l_7])]), (U x), (U y), (.tuple #[(.agg #[B h_0, B h_1, B h_2, B h_3]), (.agg #[B l_4, B l_5, B l_6, B l_7])]), (.agg #[B h_0, B h_1, B h_2, B h_3]), (.agg #[B l_4, B l_5, B l_6, B l_7]), (.int .i64 0), (.bool true), undef, undef, (.tuple #[(B h_8), (B l_9)]), (.int .i64 0), (PT g1_6), (B h_0), (.int .u64 4294968273), (.tuple #[(B h_8), (B l_9)]), (B h_8), (B l_9), undef, undef, undef, undef, undef, undef, undef, undef, undef, undef, undef, undef, undef, undef, undef, undef, undef, undef, undef, undef, undef, undef, undef, undef, undef, undef, undef, undef, undef, undef, undef, undef, undef, undef, undef, undef, undef, undef, undef, undef, undef, undef, undef, undef, undef, undef, undef, undef, undef, undef, undef, undef, undef], defers := [] } : Act) := haZ.trans (by kernel_rfl)
  subst eZ
  clear haZ
  replace RR : Hid (RB w w2 [(g1_7, #[B l_4, B l_5, B l_6, B l_7]), (g1_6, #[B h_0, B h_1, B h_2, B h_3]), (w.heap.size + 1 + 1, Zr), (w.heap.size + 1, (Ar y)), (w.heap.size, (Ar x))]) := ⟨F.bw, (RowsAt.cons (F.row 4 rfl) (RowsAt.cons (F.row 3 rfl) (RowsAt.cons (F.row 2 rfl) (RowsAt.cons (F.row 1 rfl) (RowsAt.cons (F.row 0 rfl) RowsAt.nil)))))⟩
  clear F qT q0 q1 q2 q3 q4
  go_upto_region 8 with fail
  obtain ⟨q4, q3, q2, q1, q0, qT⟩ := RR.out.r.lts
  refine wp_region_told (by kernel_rfl) (by kernel_rfl) (by kernel_rfl) [(w.heap.size, (Ar x)), (w.heap.size + 1, (Ar y)), (w.heap.size + 1 + 1, Zr), (g1_6, #[B h_0, B h_1, B h_2, B h_3]), (g1_7, #[B l_4, B l_5, B l_6, B l_7])]
    [sV (.int .i64 0),
     sV (PT g1_7),
     sV (B l_4),
     sV (B l_9),
     sV (.tuple #[(B s_10), (B c_11)]),
     sV (.tuple #[(B s_10), (B c_11)]),
     sV (B s_10),
     sV (B c_11),
     sV (B s_10),
     sV (B c_11)]
    (by kernel_rfl) RR.out.b (RowsAt.cons (RR.out.at 4 rfl) (RowsAt.cons (RR.out.at 3 rfl) (RowsAt.cons (RR.out.at 2 rfl) (RowsAt.cons (RR.out.at 1 rfl) (RowsAt.cons (RR.out.at 0 rfl) RowsAt.nil))))) (StOk.of [] rfl StM.nil)
    (Obs.val (fun a' w' E => ob_move (.tmp 9) rfl (E.old 9 (by kernel_rfl)))
    (Obs.val (fun a' w' E => ob_indexAddr 24 (.tmp 7) (.tmp 41) rfl (E.old 7 (by kernel_rfl)) (E.new (v := (.int .i64 0)) 41 0 (by kernel_rfl) rfl) (ix24_0 _ _ w'))
    (Obs.val (fun a' w' E => ob_load1 22 (.tmp 42) rfl (E.new (v := (PT g1_7)) 42 1 (by kernel_rfl) rfl) (E.row (g := g1_7) (c := #[B l_4, B l_5, B l_6, B l_7]) 4 rfl) Tryd.underlying22 rfl rfl)
    (Obs.val (fun a' w' E => ob_move (.tmp 11) rfl (E.old 11 (by kernel_rfl)))
    (Obs.val (fun a' w' E => ob_xcall 44 _ _ rfl (am3 (E.new (v := (B l_4)) 43 2 (by kernel_rfl) rfl) (E.new (v := (B l_9)) 44 3 (by kernel_rfl) rfl) (evc a' (.int .u64 0))) (xc44 _ _) (c3.out w'))
    (Obs.val (fun a' w' E => ob_move (.tmp 45) rfl (E.new (v := (.tuple #[(B s_10), (B c_11)])) 45 4 (by kernel_rfl) rfl))
    (Obs.val (fun a' w' E => ob_extract (.tmp 40) 0 rfl (E.new (v := (.tuple #[(B s_10), (B c_11)])) 40 5 (by kernel_rfl) rfl) rfl)
    (Obs.val (fun a' w' E => ob_extract (.tmp 40) 1 rfl (E.new (v := (.tuple #[(B s_10), (B c_11)])) 40 5 (by kernel_rfl) rfl) rfl)
    (Obs.val (fun a' w' E => ob_assign (.tmp 46) rfl (E.new (v := (B s_10)) 46 6 (by kernel_rfl) rfl))
    (Obs.val (fun a' w' E => ob_assign (.tmp 47) rfl (E.new (v := (B c_11)) 47 7 (by kernel_rfl) rfl))
    Obs.nil)))))))))) ?_
  intro bs w3 aZ haZ F
  have eZ : aZ = ({ tmps := #[(U x), (U y), (PT w.heap.size), (PT (w.heap.size + 1)), (PT (w.heap.size + 1 + 1)), (.int .u64 4294968273), (PT g1_6), (PT g1_7), (.int .u64 0), (.int .i64 0), (B h_8), (B l_9), (B s_10), (B c_11), undef, undef, undef, undef, undef, undef, undef, undef, (.tuple #[(.agg #[B h_0, B h_1, B h_2, B h_3]), (.agg #[B l_4, B l_5, B l_6, B l_7])]), (U x), (U y), (.tuple #[(.agg #[B h_0, B h_1, B h_2, B h_3]), (.agg #[B l_4, B l_5, B l_6, B l_7])]), (.agg #[B h_0, B h_1, B h_2, B h_3]), (.agg #[B l_4, B l_5, B l_6, B l_7]), (.int .i64 0), (.bool true), undef, undef, (.tuple #[(B h_8), (B l_9)]), (.int .i64 0), (PT g1_6), (B h_0), (.int .u64 4294968273), (.tuple #[(B h_8), (B l_9)]), (B h_8), (B l_9), (.tuple #[(B s_10), (B c_11)]), (.int .i64 0), (PT g1_7), (B l_4), (B l_9), (.tuple #[(B s_10), (B c_11)]), (B s_10), (B c_11), undef, undef, undef, undef, undef, undef, undef, undef, undef, undef, undef, undef, undef, undef, undef, undef, undef, undef, undef, undef, undef, undef, undef, undef, undef, undef, undef, undef, undef, undef, undef, undef, undef, undef, undef, undef, undef, undef, undef, undef, undef, undef, undef, undef, undef], defers := [] } : Act) := haZ.trans (by kernel_rfl)
  subst eZ
  clear haZ
  replace RR : Hid (RB w w3 [(g1_7, #[B l_4, B l_5, B l_6, B l_7]), (g1_6, #[B h_0, B h_1, B h_2, B h_3]), (w.heap.size + 1 + 1, Zr), (w.heap.size + 1, (Ar y)), (w.heap.size, (Ar x))]) := ⟨F.bw, (RowsAt.cons (F.row 4 rfl) (RowsAt.cons (F.row 3 rfl) (RowsAt.cons (F.row 2 rfl) (RowsAt.cons (F.row 1 rfl) (RowsAt.cons (F.row 0 rfl) RowsAt.nil)))))⟩
  clear F qT q0 q1 q2 q3 q4
  go_upto_region 9 with fail
  obtain ⟨q4, q3, q2, q1, q0, qT⟩ := RR.out.r.lts
  refine wp_region_told (by kernel_rfl) (by kernel_rfl) (by kernel_rfl) [(w.heap.size, (Ar x)), (w.heap.size + 1, (Ar y)), (w.heap.size + 1 + 1, Zr), (g1_6, #[B h_0, B h_1, B h_2, B h_3]), (g1_7, #[B l_4, B l_5, B l_6, B l_7])]
    [sV (B s_10),
     sV (.int .u64 0),
     sV (.tuple #[(B s_12), (B c_13)]),
     sV (.tuple #[(B s_12), (B c_13)]),
     sV (B s_12),
     sV (B c_13),
     sV (B s_12),
     sV (B c_13)]
    (by kernel_rfl) RR.out.b (RowsAt.cons (RR.out.at 4 rfl) (RowsAt.cons (RR.out.at 3 rfl) (RowsAt.cons (RR.out.at 2 rfl) (RowsAt.cons (RR.out.at 1 rfl) (RowsAt.cons (RR.out.at 0 rfl) RowsAt.nil))))) (StOk.of [] rfl StM.nil)
    (Obs.val (fun a' w' E => ob_move (.tmp 12) rfl (E.old 12 (by kernel_rfl)))
    (Obs.val (fun a' w' E => ob_move (.tmp 8) rfl (E.old 8 (by kernel_rfl)))
    (Obs.val (fun a' w' E => ob_xcall 44 _ _ rfl (am3 (E.new (v := (B s_10)) 49 0 (by kernel_rfl) rfl) (E.new (v := (.int .u64 0)) 50 1 (by kernel_rfl) rfl) (evc a' (.int .u64 0))) (xc44 _ _) (c4.out w'))
    (Obs.val (fun a' w' E => ob_move (.tmp 51) rfl (E.new (v := (.tuple #[(B s_12), (B c_13)])) 51 2 (by kernel_rfl) rfl))
    (Obs.val (fun a' w' E => ob_extract (.tmp 48) 0 rfl (E.new (v := (.tuple #[(B s_12), (B c_13)])) 48 3 (by kernel_rfl) rfl) rfl)
    (Obs.val (fun a' w' E => ob_extract (.tmp 48) 1 rfl (E.new (v := (.tuple #[(B s_12), (B c_13)])) 48 3 (by kernel_rfl) rfl) rfl)
    (Obs.val (fun a' w' E => ob_assign (.tmp 52) rfl (E.new (v := (B s_12)) 52 4 (by kernel_rfl) rfl))
    (Obs.val (fun a' w' E => ob_assign (.tmp 53) rfl (E.new (v := (B c_13)) 53 5 (by kernel_rfl) rfl))
    Obs.nil)))))))) ?_
  intro bs w4 aZ haZ F
  have eZ : aZ = ({ tmps := #[(U x), (U y), (PT w.heap.size), (PT (w.heap.size + 1)), (PT (w.heap.size + 1 + 1)), (.int .u64 4294968273), (PT g1_6), (PT g1_7), (.int .u64 0), (.int .i64 0), (B h_8), (B l_9), (B s_10), (B c_11), (B s_12), (B c_13), undef, undef, undef, undef, undef, undef, (.tuple #[(.agg #[B h_0, B h_1, B h_2, B h_3]), (.agg #[B l_4, B l_5, B l_6, B l_7])]), (U x), (U y), (.tuple #[(.agg #[B h_0, B h_1, B h_2, B h_3]), (.agg #[B l_4, B l_5, B l_6, B l_7])]), (.agg #[B h_0, B h_1, B h_2, B h_3]), (.agg #[B l_4, B l_5, B l_6, B l_7]), (.int .i64 0), (.bool true), undef, undef, (.tuple #[(B h_8), (B l_9)]), (.int .i64 0), (PT g1_6), (B h_0), (.int .u64 4294968273), (.tuple #[(B h_8), (B l_9)]), (B h_8), (B l_9), (.tuple #[(B s_10), (B c_11)]), (.int .i64 0), (PT g1_7), (B l_4), (B l_9), (.tuple #[(B s_10), (B c_11)]), (B s_10), (B c_11), (.tuple #[(B s_12), (B c_13)]), (B s_10), (.int .u64 0), (.tuple #[(B s_12), (B c_13)]), (B s_12), (B c_13), undef, undef, undef, undef, undef, undef, undef, undef, undef, undef, undef, undef, undef, undef, undef, undef, undef, undef, undef, undef, undef, undef, undef, undef, undef, undef, undef, undef, undef, undef, undef, undef, undef, undef, undef, undef, undef, undef, undef], defers := [] } : Act) := haZ.trans (by kernel_rfl)
  subst eZ
  clear haZ
  replace RR : Hid (RB w w4 [(g1_7, #[B l_4, B l_5, B l_6, B l_7]), (g1_6, #[B h_0, B h_1, B h_2, B h_3]), (w.heap.size + 1 + 1, Zr), (w.heap.size + 1, (Ar y)), (w.heap.size, (Ar x))]) := ⟨F.bw, (RowsAt.cons (F.row 4 rfl) (RowsAt.cons (F.row 3 rfl) (RowsAt.cons (F.row 2 rfl) (RowsAt.cons (F.row 1 rfl) (RowsAt.cons (F.row 0 rfl) RowsAt.nil)))))⟩
  clear F qT q0 q1 q2 q3 q4
  go_upto_region 10 with fail
  obtain ⟨q4, q3, q2, q1, q0, qT⟩ := RR.out.r.lts
  refine wp_region_told (by kernel_rfl) (by kernel_rfl) (by kernel_rfl) [(w.heap.size, (Ar x)), (w.heap.size + 1, (Ar y)), (w.heap.size + 1 + 1, Zr), (g1_6, #[B h_0, B h_1, B h_2, B h_3])]
    [sV (.int .i64 0),
     sV (B s_12),
     sV (PT g1_7),
     sK (g1_7) #[B l_4, B l_5, B l_6, B l_7] #[B s_12, B l_5, B l_6, B l_7]]
    (by kernel_rfl) RR.out.b (RowsAt.cons (RR.out.at 4 rfl) (RowsAt.cons (RR.out.at 3 rfl) (RowsAt.cons (RR.out.at 2 rfl) (RowsAt.cons (RR.out.at 1 rfl) RowsAt.nil)))) (StOk.of [(g1_7, #[B l_4, B l_5, B l_6, B l_7])] rfl (StM.cons (RR.out.at 0 rfl) (by omega) (Apart.cons (by omega) (Apart.cons (by omega) (Apart.cons (by omega) (Apart.cons (by omega) Apart.nil)))) Apart.nil StM.nil))
    (Obs.val (fun a' w' E => ob_move (.tmp 9) rfl (E.old 9 (by kernel_rfl)))
    (Obs.val (fun a' w' E => ob_move (.tmp 14) rfl (E.old 14 (by kernel_rfl)))
    (Obs.val (fun a' w' E => ob_indexAddr 24 (.tmp 7) (.tmp 54) rfl (E.old 7 (by kernel_rfl)) (E.new (v := (.int .i64 0)) 54 0 (by kernel_rfl) rfl) (ix24_0 _ _ w'))
    (Obs.stk (fun a' w' E hr => ob_storea 22 (.tmp 56) (.tmp 55) rfl (E.new (v := (PT g1_7)) 56 2 (by kernel_rfl) rfl) (E.new (v := (B s_12)) 55 1 (by kernel_rfl) rfl) rfl hr (by kernel_rfl) (Nat.le_of_ble_eq_true rfl) (by kernel_rfl) rfl)
    Obs.nil)))) ?_
  intro bs w5 aZ haZ F
  have eZ : aZ = ({ tmps := #[(U x), (U y), (PT w.heap.size), (PT (w.heap.size + 1)), (PT (w.heap.size + 1 + 1)), (.int .u64 4294968273), (PT g1_6), (PT g1_7), (.int .u64 0), (.int .i64 0), (B h_8), (B l_9), (B s_10), (B c_11), (B s_12), (B c_13), undef, undef, undef, undef, undef, undef, (.tuple #[(.agg #[B h_0, B h_1, B h_2, B h_3]), (.agg #[B l_4, B l_5, B l_6, B l_7])]), (U x), (U y), (.tuple #[(.agg #[B h_0, B h_1, B h_2, B h_3]), (.agg #[B l_4, B l_5, B l_6, B l_7])]), (.agg #[B h_0, B h_1, B h_2, B h_3]), (.agg #[B l_4, B l_5, B l_6, B l_7]), (.int .i64 0), (.bool true), undef, undef, (.tuple #[(B h_8), (B l_9)]), (.int .i64 0), (PT g1_6), (B h_0), (.int .u64 4294968273), (.tuple #[(B h_8), (B l_9)]), (B h_8), (B l_9), (.tuple #[(B s_10), (B c_11)]), (.int .i64 0), (PT g1_7), (B l_4), (B l_9), (.tuple #[(B s_10), (B c_11)]), (B s_10), (B c_11), (.tuple #[(B s_12), (B c_13)]), (B s_10), (.int .u64 0), (.tuple #[(B s_12), (B c_13)]), (B s_12), (B c_13), (.int .i64 0), (B s_12), (PT g1_7), undef, undef, undef, undef, undef, undef, undef, undef, undef, undef, undef, undef, undef, undef, undef, undef, undef, undef, undef, undef, undef, undef, undef, undef, undef, undef, undef, undef, undef, undef, undef, undef, undef, undef, undef, undef], defers := [] } : Act) := haZ.trans (by kernel_rfl)
  subst eZ
  clear haZ
  replace RR : Hid (RB w w5 [(g1_7, #[B s_12, B l_5, B l_6, B l_7]), (g1_6, #[B h_0, B h_1, B h_2, B h_3]), (w.heap.size + 1 + 1, Zr), (w.heap.size + 1, (Ar y)), (w.heap.size, (Ar x))]) := ⟨F.bw, (RowsAt.cons (F.sk 3 rfl) (RowsAt.cons (F.row 3 rfl) (RowsAt.cons (F.row 2 rfl) (RowsAt.cons (F.row 1 rfl) (RowsAt.cons (F.row 0 rfl) RowsAt.nil)))))⟩
  clear F qT q0 q1 q2 q3 q4
  go_upto_region 11 with fail
  obtain ⟨q4, q3, q2, q1, q0, qT⟩ := RR.out.r.lts
  refine wp_region_told (by kernel_rfl) (by kernel_rfl) (by kernel_rfl) [(w.heap.size, (Ar x)), (w.heap.size + 1, (Ar y)), (w.heap.size + 1 + 1, Zr), (g1_6, #[B h_0, B h_1, B h_2, B h_3]), (g1_7, #[B s_12, B l_5, B l_6, B l_7])]
    [sV (B h_8),
     sV (B c_11),
     sV (B u_14),
     sV (B c_13),
     sV (B u_15),
     sV (B u_15)]
    (by kernel_rfl) RR.out.b (RowsAt.cons (RR.out.at 4 rfl) (RowsAt.cons (RR.out.at 3 rfl) (RowsAt.cons (RR.out.at 2 rfl) (RowsAt.cons (RR.out.at 1 rfl) (RowsAt.cons (RR.out.at 0 rfl) RowsAt.nil))))) (StOk.of [] rfl StM.nil)
    (Obs.val (fun a' w' E => ob_move (.tmp 10) rfl (E.old 10 (by kernel_rfl)))
    (Obs.val (fun a' w' E => ob_move (.tmp 13) rfl (E.old 13 (by kernel_rfl)))
    (Obs.val (fun a' w' E => ob_binOp .add 22 (.tmp 57) (.tmp 58) 22 rfl (E.new (v := (B h_8)) 57 0 (by kernel_rfl) rfl) (E.new (v := (B c_11)) 58 1 (by kernel_rfl) rfl) (by simp [go_sem, e5]))
    (Obs.val (fun a' w' E => ob_move (.tmp 15) rfl (E.old 15 (by kernel_rfl)))
    (Obs.val (fun a' w' E => ob_binOp .add 22 (.tmp 59) (.tmp 60) 22 rfl (E.new (v := (B u_14)) 59 2 (by kernel_rfl) rfl) (E.new (v := (B c_13)) 60 3 (by kernel_rfl) rfl) (by simp [go_sem, e6]))
    (Obs.val (fun a' w' E => ob_assign (.tmp 61) rfl (E.new (v := (B u_15)) 61 4 (by kernel_rfl) rfl))
    Obs.nil)))))) ?_
  intro bs w6 aZ haZ F
  have eZ : aZ = ({ tmps := #[(U x), (U y), (PT w.heap.size), (PT (w.heap.size + 1)), (PT (w.heap.size + 1 + 1)), (.int .u64 4294968273), (PT g1_6), (PT g1_7), (B u_15), (.int .i64 0), (B h_8), (B l_9), (B s_10), (B c_11), (B s_12), (B c_13), undef, undef, undef, undef, undef, undef, (.tuple #[(.agg #[B h_0, B h_1, B h_2, B h_3]), (.agg #[B l_4, B l_5, B l_6, B l_7])]), (U x), (U y), (.tuple #[(.agg #[B h_0, B h_1, B h_2, B h_3]), (.agg #[B l_4, B l_5, B l_6, B l_7])]), (.agg #[B h_0, B h_1, B h_2, B h_3]), (.agg #[B l_4, B l_5, B l_6, B l_7]), (.int .i64 0), (.bool true), undef, undef, (.tuple #[(B h_8), (B l_9)]), (.int .i64 0), (PT g1_6), (B h_0), (.int .u64 4294968273), (.tuple #[(B h_8), (B l_9)]), (B h_8), (B l_9), (.tuple #[(B s_10), (B c_11)]), (.int .i64 0), (PT g1_7), (B l_4), (B l_9), (.tuple #[(B s_10), (B c_11)]), (B s_10), (B c_11), (.tuple #[(B s_12), (B c_13)]), (B s_10), (.int .u64 0), (.tuple #[(B s_12), (B c_13)]), (B s_12), (B c_13), (.int .i64 0), (B s_12), (PT g1_7), (B h_8), (B c_11), (B u_14), (B c_13), (B u_15), undef, undef, undef, undef, undef, undef, undef, undef, undef, undef, undef, undef, undef, undef, undef, undef, undef, undef, undef, undef, undef, undef, undef, undef, undef, undef, undef, undef, undef, undef, undef], defers := [] } : Act) := haZ.trans (by kernel_rfl)
  subst eZ
  clear haZ
  replace RR : Hid (RB w w6 [(g1_7, #[B s_12, B l_5, B l_6, B l_7]), (g1_6, #[B h_0, B h_1, B h_2, B h_3]), (w.heap.size + 1 + 1, Zr), (w.heap.size + 1, (Ar y)), (w.heap.size, (Ar x))]) := ⟨F.bw, (RowsAt.cons (F.row 4 rfl) (RowsAt.cons (F.row 3 rfl) (RowsAt.cons (F.row 2 rfl) (RowsAt.cons (F.row 1 rfl) (RowsAt.cons (F.row 0 rfl) RowsAt.nil)))))⟩
  clear F qT q0 q1 q2 q3 q4
  go_wp2
  rw [rounds_succ]
  go_upto_region 7 with fail
  obtain ⟨q4, q3, q2, q1, q0, qT⟩ := RR.out.r.lts
  refine wp_region_told (by kernel_rfl) (by kernel_rfl) (by kernel_rfl) [(w.heap.size, (Ar x)), (w.heap.size + 1, (Ar y)), (w.heap.size + 1 + 1, Zr), (g1_6, #[B h_0, B h_1, B h_2, B h_3]), (g1_7, #[B s_12, B l_5, B l_6, B l_7])]
    [sV (.int .i64 1),
     sV (PO g1_6 1),
     sV (B h_1),
     sV (.int .u64 4294968273),
     sV (.tuple #[(B h_16), (B l_17)]),
     sV (.tuple #[(B h_16), (B l_17)]),
     sV (B h_16),
     sV (B l_17),
     sV (B h_16),
     sV (B l_17)]
    (by kernel_rfl) RR.out.b (RowsAt.cons (RR.out.at 4 rfl) (RowsAt.cons (RR.out.at 3 rfl) (RowsAt.cons (RR.out.at 2 rfl) (RowsAt.cons (RR.out.at 1 rfl) (RowsAt.cons (RR.out.at 0 rfl) RowsAt.nil))))) (StOk.of [] rfl StM.nil)
    (Obs.val (fun a' w' E => ob_move (.tmp 9) rfl (E.old 9 (by kernel_rfl)))
    (Obs.val (fun a' w' E => ob_indexAddr 24 (.tmp 6) (.tmp 33) rfl (E.old 6 (by kernel_rfl)) (E.new (v := (.int .i64 1)) 33 0 (by kernel_rfl) rfl) (ix24_1 _ _ w'))
    (Obs.val (fun a' w' E => ob_load1 22 (.tmp 34) rfl (E.new (v := (PO g1_6 1)) 34 1 (by kernel_rfl) rfl) (E.row (g := g1_6) (c := #[B h_0, B h_1, B h_2, B h_3]) 3 rfl) Tryd.underlying22 rfl rfl)
    (Obs.val (fun a' w' E => ob_move (.tmp 5) rfl (E.old 5 (by kernel_rfl)))
    (Obs.val (fun a' w' E => ob_fcall 57 _ _ rfl (am2 (E.new (v := (B h_1)) 35 2 (by kernel_rfl) rfl) (E.new (v := (.int .u64 4294968273)) 36 3 (by kernel_rfl) rfl)) (fc57 _ _) (c7.out w'))
    (Obs.val (fun a' w' E => ob_move (.tmp 37) rfl (E.new (v := (.tuple #[(B h_16), (B l_17)])) 37 4 (by kernel_rfl) rfl))
    (Obs.val (fun a' w' E => ob_extract (.tmp 32) 0 rfl (E.new (v := (.tuple #[(B h_16), (B l_17)])) 32 5 (by kernel_rfl) rfl) rfl)
    (Obs.val (fun a' w' E => ob_extract (.tmp 32) 1 rfl (E.new (v := (.tuple #[(B h_16), (B l_17)])) 32 5 (by kernel_rfl) rfl) rfl)
    (Obs.val (fun a' w' E => ob_assign (.tmp 38) rfl (E.new (v := (B h_16)) 38 6 (by kernel_rfl) rfl))
    (Obs.val (fun a' w' E => ob_assign (.tmp 39) rfl (E.new (v := (B l_17)) 39 7 (by kernel_rfl) rfl))
    Obs.nil)))))))))) ?_
  intro bs w7 aZ haZ F
  have eZ : aZ = ({ tmps := #[(U x), (U y), (PT w.heap.size), (PT (w.heap.size + 1)), (PT (w.heap.size + 1 + 1)), (.int .u64 4294968273), (PT g1_6), (PT g1_7), (B u_15), (.int .i64 1), (B h_16), (B l_17), (B s_10), (B c_11), (B s_12), (B c_13), undef, undef, undef, undef, undef, undef, (.tuple #[(.agg #[B h_0, B h_1, B h_2, B h_3]), (.agg #[B l_4, B l_5, B l_6, B l_7])]), (U x), (U y), (.tuple #[(.agg #[B h_0, B h_1, B h_2, B h_3]), (.agg #[B l_4, B l_5, B l_6, B l_7])]), (.agg #[B h_0, B h_1, B h_2, B h_3]), (.agg #[B l_4, B l_5, B l_6, B l_7]), (.int .i64 1), (.bool true), (.int .i64 0), (.int .i64 1), (.tuple #[(B h_16), (B l_17)]), (.int .i64 1), (PO g1_6 1), (B h_1), (.int .u64 4294968273), (.tuple #[(B h_16), (B l_17)]), (B h_16), (B l_17), (.tuple #[(B s_10), (B c_11)]), (.int .i64 0), (PT g1_7), (B l_4), (B l_9), (.tuple #[(B s_10), (B c_11)]), (B s_10), (B c_11), (.tuple #[(B s_12), (B c_13)]), (B s_10), (.int .u64 0), (.tuple #[(B s_12), (B c_13)]), (B s_12), (B c_13), (.int .i64 0), (B s_12), (PT g1_7), (B h_8), (B c_11), (B u_14), (B c_13), (B u_15), undef, undef, undef, undef, undef, undef, undef, undef, undef, undef, undef, undef, undef, undef, undef, undef, undef, undef, undef, undef, undef, undef, undef, undef, undef, undef, undef, undef, undef, undef, undef], defers := [] } : Act) := haZ.trans (by kernel_rfl)
  subst eZ
  clear haZ
  replace RR : Hid (RB w w7 [(g1_7, #[B s_12, B l_5, B l_6, B l_7]), (g1_6, #[B h_0, B h_1, B h_2, B h_3]), (w.heap.size + 1 + 1, Zr), (w.heap.size + 1, (Ar y)), (w.heap.size, (Ar x))]) := ⟨F.bw, (RowsAt.cons (F.row 4 rfl) (RowsAt.cons (F.row 3 rfl) (RowsAt.cons (F.row 2 rfl) (RowsAt.cons (F.row 1 rfl) (RowsAt.cons (F.row 0 rfl) RowsAt.nil)))))⟩
  clear F qT q0 q1 q2 q3 q4
  go_upto_region 8 with fail
  obtain ⟨q4, q3, q2, q1, q0, qT⟩ := RR.out.r.lts
  refine wp_region_told (by kernel_rfl) (by kernel_rfl) (by kernel_rfl) [(w.heap.size, (Ar x)), (w.heap.size + 1, (Ar y)), (w.heap.size + 1 + 1, Zr), (g1_6, #[B h_0, B h_1, B h_2, B h_3]), (g1_7, #[B s_12, B l_5, B l_6, B l_7])]
    [sV (.int .i64 1),
     sV (PO g1_7 1),
     sV (B l_5),
     sV (B l_17),
     sV (.tuple #[(B s_18), (B c_19)]),
     sV (.tuple #[(B s_18), (B c_19)]),
     sV (B s_18),
     sV (B c_19),
     sV (B s_18),
     sV (B c_19)]
    (by kernel_rfl) RR.out.b (RowsAt.cons (RR.out.at 4 rfl) (RowsAt.cons (RR.out.at 3 rfl) (RowsAt.cons (RR.out.at 2 rfl) (RowsAt.cons (RR.out.at 1 rfl) (RowsAt.cons (RR.out.at 0 rfl) RowsAt.nil))))) (StOk.of [] rfl StM.nil)
    (Obs.val (fun a' w' E => ob_move (.tmp 9) rfl (E.old 9 (by kernel_rfl)))
    (Obs.val (fun a' w' E => ob_indexAddr 24 (.tmp 7) (.tmp 41) rfl (E.old 7 (by kernel_rfl)) (E.new (v := (.int .i64 1)) 41 0 (by kernel_rfl) rfl) (ix24_1 _ _ w'))
    (Obs.val (fun a' w' E => ob_load1 22 (.tmp 42) rfl (E.new (v := (PO g1_7 1)) 42 1 (by kernel_rfl) rfl) (E.row (g := g1_7) (c := #[B s_12, B l_5, B l_6, B l_7]) 4 rfl) Tryd.underlying22 rfl rfl)
    (Obs.val (fun a' w' E => ob_move (.tmp 11) rfl (E.old 11 (by kernel_rfl)))
    (Obs.val (fun a' w' E => ob_xcall 44 _ _ rfl (am3 (E.new (v := (B l_5)) 43 2 (by kernel_rfl) rfl) (E.new (v := (B l_17)) 44 3 (by kernel_rfl) rfl) (evc a' (.int .u64 0))) (xc44 _ _) (c8.out w'))
    (Obs.val (fun a' w' E => ob_move (.tmp 45) rfl (E.new (v := (.tuple #[(B s_18), (B c_19)])) 45 4 (by kernel_rfl) rfl))
    (Obs.val (fun a' w' E => ob_extract (.tmp 40) 0 rfl (E.new (v := (.tuple #[(B s_18), (B c_19)])) 40 5 (by kernel_rfl) rfl) rfl)
    (Obs.val (fun a' w' E => ob_extract (.tmp 40) 1 rfl (E.new (v := (.tuple #[(B s_18), (B c_19)])) 40 5 (by kernel_rfl) rfl) rfl)
    (Obs.val (fun a' w' E => ob_assign (.tmp 46) rfl (E.new (v := (B s_18)) 46 6 (by kernel_rfl) rfl))
    (Obs.val (fun a' w' E => ob_assign (.tmp 47) rfl (E.new (v := (B c_19)) 47 7 (by kernel_rfl) rfl))
    Obs.nil)))))))))) ?_
  intro bs w8 aZ haZ F
  have eZ : aZ = ({ tmps := #[(U x), (U y), (PT w.heap.size), (PT (w.heap.size + 1)), (PT (w.heap.size + 1 + 1)), (.int .u64 4294968273), (PT g1_6), (PT g1_7), (B u_15), (.int .i64 1), (B h_16), (B l_17), (B s_18), (B c_19), (B s_12), (B c_13), undef, undef, undef, undef, undef, undef, (.tuple #[(.agg #[B h_0, B h_1, B h_2, B h_3]), (.agg #[B l_4, B l_5, B l_6, B l_7])]), (U x), (U y), (.tuple #[(.agg #[B h_0, B h_1, B h_2, B h_3]), (.agg #[B l_4, B l_5, B l_6, B l_7])]), (.agg #[B h_0, B h_1, B h_2, B h_3]), (.agg #[B l_4, B l_5, B l_6, B l_7]), (.int .i64 1), (.bool true), (.int .i64 0), (.int .i64 1), (.tuple #[(B h_16), (B l_17)]), (.int .i64 1), (PO g1_6 1), (B h_1), (.int .u64 4294968273), (.tuple #[(B h_16), (B l_17)]), (B h_16), (B l_17), (.tuple #[(B s_18), (B c_19)]), (.int .i64 1), (PO g1_7 1), (B l_5), (B l_17), (.tuple #[(B s_18), (B c_19)]), (B s_18), (B c_19), (.tuple #[(B s_12), (B c_13)]), (B s_10), (.int .u64 0), (.tuple #[(B s_12), (B c_13)]), (B s_12), (B c_13), (.int .i64 0), (B s_12), (PT g1_7), (B h_8), (B c_11), (B u_14), (B c_13), (B u_15), undef, undef, undef, undef, undef, undef, undef, undef, undef, undef, undef, undef, undef, undef, undef, undef, undef, undef, undef, undef, undef, undef, undef, undef, undef, undef, undef, undef, undef, undef, undef], defers := [] } : Act) := haZ.trans (by kernel_rfl)
  subst eZ
  clear haZ
  replace RR : Hid (RB w w8 [(g1_7, #[B s_12, B l_5, B l_6, B l_7]), (g1_6, #[B h_0, B h_1, B h_2, B h_3]), (w.heap.size + 1 + 1, Zr), (w.heap.size + 1, (Ar y)), (w.heap.size, (Ar x))]) := ⟨F.bw, (RowsAt.cons (F.row 4 rfl) (RowsAt.cons (F.row 3 rfl) (RowsAt.cons (F.row 2 rfl) (RowsAt.cons (F.row 1 rfl) (RowsAt.cons (F.row 0 rfl) RowsAt.nil)))))⟩
  clear F qT q0 q1 q2 q3 q4
  go_upto_region 9 with fail
  obtain ⟨q4, q3, q2, q1, q0, qT⟩ := RR.out.r.lts
  refine wp_region_told (by kernel_rfl) (by kernel_rfl) (by kernel_rfl) [(w.heap.size, (Ar x)), (w.heap.size + 1, (Ar y)), (w.heap.size + 1 + 1, Zr), (g1_6, #[B h_0, B h_1, B h_2, B h_3]), (g1_7, #[B s_12, B l_5, B l_6, B l_7])]
    [sV (B s_18),
     sV (B u_15),
     sV (.tuple #[(B s_20), (B c_21)]),
     sV (.tuple #[(B s_20), (B c_21)]),
     sV (B s_20),
     sV (B c_21),
     sV (B s_20),
     sV (B c_21)]
    (by kernel_rfl) RR.out.b (RowsAt.cons (RR.out.at 4 rfl) (RowsAt.cons (RR.out.at 3 rfl) (RowsAt.cons (RR.out.at 2 rfl) (RowsAt.cons (RR.out.at 1 rfl) (RowsAt.cons (RR.out.at 0 rfl) RowsAt.nil))))) (StOk.of [] rfl StM.nil)
    (Obs.val (fun a' w' E => ob_move (.tmp 12) rfl (E.old 12 (by kernel_rfl)))
    (Obs.val (fun a' w' E => ob_move (.tmp 8) rfl (E.old 8 (by kernel_rfl)))
    (Obs.val (fun a' w' E => ob_xcall 44 _ _ rfl (am3 (E.new (v := (B s_18)) 49 0 (by kernel_rfl) rfl) (E.new (v := (B u_15)) 50 1 (by kernel_rfl) rfl) (evc a' (.int .u64 0))) (xc44 _ _) (c9.out w'))
    (Obs.val (fun a' w' E => ob_move (.tmp 51) rfl (E.new (v := (.tuple #[(B s_20), (B c_21)])) 51 2 (by kernel_rfl) rfl))
    (Obs.val (fun a' w' E => ob_extract (.tmp 48) 0 rfl (E.new (v := (.tuple #[(B s_20), (B c_21)])) 48 3 (by kernel_rfl) rfl) rfl)
    (Obs.val (fun a' w' E => ob_extract (.tmp 48) 1 rfl (E.new (v := (.tuple #[(B s_20), (B c_21)])) 48 3 (by kernel_rfl) rfl) rfl)
    (Obs.val (fun a' w' E => ob_assign (.tmp 52) rfl (E.new (v := (B s_20)) 52 4 (by kernel_rfl) rfl))
    (Obs.val (fun a' w' E => ob_assign (.tmp 53) rfl (E.new (v := (B c_21)) 53 5 (by kernel_rfl) rfl))
    Obs.nil)))))))) ?_
  intro bs w9 aZ haZ F
  have eZ : aZ = ({ tmps := #[(U x), (U y), (PT w.heap.size), (PT (w.heap.size + 1)), (PT (w.heap.size + 1 + 1)), (.int .u64 4294968273), (PT g1_6), (PT g1_7), (B u_15), (.int .i64 1), (B h_16), (B l_17), (B s_18), (B c_19), (B s_20), (B c_21), undef, undef, undef, undef, undef, undef, (.tuple #[(.agg #[B h_0, B h_1, B h_2, B h_3]), (.agg #[B l_4, B l_5, B l_6, B l_7])]), (U x), (U y), (.tuple #[(.agg #[B h_0, B h_1, B h_2, B h_3]), (.agg #[B l_4, B l_5, B l_6, B l_7])]), (.agg #[B h_0, B h_1, B h_2, B h_3]), (.agg #[B l_4, B l_5, B l_6, B l_7]), (.int .i64 1), (.bool true), (.int .i64 0), (.int .i64 1), (.tuple #[(B h_16), (B l_17)]), (.int .i64 1), (PO g1_6 1), (B h_1), (.int .u64 4294968273), (.tuple #[(B h_16), (B l_17)]), (B h_16), (B l_17), (.tuple #[(B s_18), (B c_19)]), (.int .i64 1), (PO g1_7 1), (B l_5), (B l_17), (.tuple #[(B s_18), (B c_19)]), (B s_18), (B c_19), (.tuple #[(B s_20), (B c_21)]), (B s_18), (B u_15), (.tuple #[(B s_20), (B c_21)]), (B s_20), (B c_21), (.int .i64 0), (B s_12), (PT g1_7), (B h_8), (B c_11), (B u_14), (B c_13), (B u_15), undef, undef, undef, undef, undef, undef, undef, undef, undef, undef, undef, undef, undef, undef, undef, undef, undef, undef, undef, undef, undef, undef, undef, undef, undef, undef, undef, undef, undef, undef, undef], defers := [] } : Act) := haZ.trans (by kernel_rfl)
  subst eZ
  clear haZ
  replace RR : Hid (RB w w9 [(g1_7, #[B s_12, B l_5, B l_6, B l_7]), (g1_6, #[B h_0, B h_1, B h_2, B h_3]), (w.heap.size + 1 + 1, Zr), (w.heap.size + 1, (Ar y)), (w.heap.size, (Ar x))]) := ⟨F.bw, (RowsAt.cons (F.row 4 rfl) (RowsAt.cons (F.row 3 rfl) (RowsAt.cons (F.row 2 rfl) (RowsAt.cons (F.row 1 rfl) (RowsAt.cons (F.row 0 rfl) RowsAt.nil)))))⟩
  clear F qT q0 q1 q2 q3 q4
  go_upto_region 10 with fail
  obtain ⟨q4, q3, q2, q1, q0, qT⟩ := RR.out.r.lts
  refine wp_region_told (by kernel_rfl) (by kernel_rfl) (by kernel_rfl) [(w.heap.size, (Ar x)), (w.heap.size + 1, (Ar y)), (w.heap.size + 1 + 1, Zr), (g1_6, #[B h_0, B h_1, B h_2, B h_3])]
    [sV (.int .i64 1),
     sV (B s_20),
     sV (PO g1_7 1),
     sK (g1_7) #[B s_12, B l_5, B l_6, B l_7] #[B s_12, B s_20, B l_6, B l_7]]
    (by kernel_rfl) RR.out.b (RowsAt.cons (RR.out.at 4 rfl) (RowsAt.cons (RR.out.at 3 rfl) (RowsAt.cons (RR.out.at 2 rfl) (RowsAt.cons (RR.out.at 1 rfl) RowsAt.nil)))) (StOk.of [(g1_7, #[B s_12, B l_5, B l_6, B l_7])] rfl (StM.cons (RR.out.at 0 rfl) (by omega) (Apart.cons (by omega) (Apart.cons (by omega) (Apart.cons (by omega) (Apart.cons (by omega) Apart.nil)))) Apart.nil StM.nil))
    (Obs.val (fun a' w' E => ob_move (.tmp 9) rfl (E.old 9 (by kernel_rfl)))
    (Obs.val (fun a' w' E => ob_move (.tmp 14) rfl (E.old 14 (by kernel_rfl)))
    (Obs.val (fun a' w' E => ob_indexAddr 24 (.tmp 7) (.tmp 54) rfl (E.old 7 (by kernel_rfl)) (E.new (v := (.int .i64 1)) 54 0 (by kernel_rfl) rfl) (ix24_1 _ _ w'))
    (Obs.stk (fun a' w' E hr => ob_storea 22 (.tmp 56) (.tmp 55) rfl (E.new (v := (PO g1_7 1)) 56 2 (by kernel_rfl) rfl) (E.new (v := (B s_20)) 55 1 (by kernel_rfl) rfl) rfl hr (by kernel_rfl) (Nat.le_of_ble_eq_true rfl) (by kernel_rfl) rfl)
    Obs.nil)))) ?_
  intro bs w10 aZ haZ F
  have eZ : aZ = ({ tmps := #[(U x), (U y), (PT w.heap.size), (PT (w.heap.size + 1)), (PT (w.heap.size + 1 + 1)), (.int .u64 4294968273), (PT g1_6), (PT g1_7), (B u_15), (.int .i64 1), (B h_16), (B l_17), (B s_18), (B c_19), (B s_20), (B c_21), undef, undef, undef, undef, undef, undef, (.tuple #[(.agg #[B h_0, B h_1, B h_2, B h_3]), (.agg #[B l_4, B l_5, B l_6, B l_7])]), (U x), (U y), (.tuple #[(.agg #[B h_0, B h_1, B h_2, B h_3]), (.agg #[B l_4, B l_5, B l_6, B l_7])]), (.agg #[B h_0, B h_1, B h_2, B h_3]), (.agg #[B l_4, B l_5, B l_6, B l_7]), (.int .i64 1), (.bool true), (.int .i64 0), (.int .i64 1), (.tuple #[(B h_16), (B l_17)]), (.int .i64 1), (PO g1_6 1), (B h_1), (.int .u64 4294968273), (.tuple #[(B h_16), (B l_17)]), (B h_16), (B l_17), (.tuple #[(B s_18), (B c_19)]), (.int .i64 1), (PO g1_7 1), (B l_5), (B l_17), (.tuple #[(B s_18), (B c_19)]), (B s_18), (B c_19), (.tuple #[(B s_20), (B c_21)]), (B s_18), (B u_15), (.tuple #[(B s_20), (B c_21)]), (B s_20), (B c_21), (.int .i64 1), (B s_20), (PO g1_7 1), (B h_8), (B c_11), (B u_14), (B c_13), (B u_15), undef, undef, undef, undef, undef, undef, undef, undef, undef, undef, undef, undef, undef, undef, undef, undef, undef, undef, undef, undef, undef, undef, undef, undef, undef, undef, undef, undef, undef, undef, undef], defers := [] } : Act) := haZ.trans (by kernel_rfl)
  subst eZ
  clear haZ
  replace RR : Hid (RB w w10 [(g1_7, #[B s_12, B s_20, B l_6, B l_7]), (g1_6, #[B h_0, B h_1, B h_2, B h_3]), (w.heap.size + 1 + 1, Zr), (w.heap.size + 1, (Ar y)), (w.heap.size, (Ar x))]) := ⟨F.bw, (RowsAt.cons (F.sk 3 rfl) (RowsAt.cons (F.row 3 rfl) (RowsAt.cons (F.row 2 rfl) (RowsAt.cons (F.row 1 rfl) (RowsAt.cons (F.row 0 rfl) RowsAt.nil)))))⟩
  clear F qT q0 q1 q2 q3 q4
  go_upto_region 11 with fail
  obtain ⟨q4, q3, q2, q1, q0, qT⟩ := RR.out.r.lts
  refine wp_region_told (by kernel_rfl) (by kernel_rfl) (by kernel_rfl) [(w.heap.size, (Ar x)), (w.heap.size + 1, (Ar y)), (w.heap.size + 1 + 1, Zr), (g1_6, #[B h_0, B h_1, B h_2, B h_3]), (g1_7, #[B s_12, B s_20, B l_6, B l_7])]
    [sV (B h_16),
     sV (B c_19),
     sV (B u_22),
     sV (B c_21),
     sV (B u_23),
     sV (B u_23)]
    (by kernel_rfl) RR.out.b (RowsAt.cons (RR.out.at 4 rfl) (RowsAt.cons (RR.out.at 3 rfl) (RowsAt.cons (RR.out.at 2 rfl) (RowsAt.cons (RR.out.at 1 rfl) (RowsAt.cons (RR.out.at 0 rfl) RowsAt.nil))))) (StOk.of [] rfl StM.nil)
    (Obs.val (fun a' w' E => ob_move (.tmp 10) rfl (E.old 10 (by kernel_rfl)))
    (Obs.val (fun a' w' E => ob_move (.tmp 13) rfl (E.old 13 (by kernel_rfl)))
    (Obs.val (fun a' w' E => ob_binOp .add 22 (.tmp 57) (.tmp 58) 22 rfl (E.new (v := (B h_16)) 57 0 (by kernel_rfl) rfl) (E.new (v := (B c_19)) 58 1 (by kernel_rfl) rfl) (by simp [go_sem, e10]))
    (Obs.val (fun a' w' E => ob_move (.tmp 15) rfl (E.old 15 (by kernel_rfl)))
    (Obs.val (fun a' w' E => ob_binOp .add 22 (.tmp 59) (.tmp 60) 22 rfl (E.new (v := (B u_22)) 59 2 (by kernel_rfl) rfl) (E.new (v := (B c_21)) 60 3 (by kernel_rfl) rfl) (by simp [go_sem, e11]))
    (Obs.val (fun a' w' E => ob_assign (.tmp 61) rfl (E.new (v := (B u_23)) 61 4 (by kernel_rfl) rfl))
    Obs.nil)))))) ?_
  intro bs w11 aZ haZ F
  have eZ : aZ = ({ tmps := #[(U x), (U y), (PT w.heap.size), (PT (w.heap.size + 1)), (PT (w.heap.size + 1 + 1)), (.int .u64 4294968273), (PT g1_6), (PT g1_7), (B u_23), (.int .i64 1), (B h_16), (B l_17), (B s_18), (B c_19), (B s_20), (B c_21), undef, undef, undef, undef, undef, undef, (.tuple #[(.agg #[B h_0, B h_1, B h_2, B h_3]), (.agg #[B l_4, B l_5, B l_6, B l_7])]), (U x), (U y), (.tuple #[(.agg #[B h_0, B h_1, B h_2, B h_3]), (.agg #[B l_4, B l_5, B l_6, B l_7])]), (.agg #[B h_0, B h_1, B h_2, B h_3]), (.agg #[B l_4, B l_5, B l_6, B l_7]), (.int .i64 1), (.bool true), (.int .i64 0), (.int .i64 1), (.tuple #[(B h_16), (B l_17)]), (.int .i64 1), (PO g1_6 1), (B h_1), (.int .u64 4294968273), (.tuple #[(B h_16), (B l_17)]), (B h_16), (B l_17), (.tuple #[(B s_18), (B c_19)]), (.int .i64 1), (PO g1_7 1), (B l_5), (B l_17), (.tuple #[(B s_18), (B c_19)]), (B s_18), (B c_19), (.tuple #[(B s_20), (B c_21)]), (B s_18), (B u_15), (.tuple #[(B s_20), (B c_21)]), (B s_20), (B c_21), (.int .i64 1), (B s_20), (PO g1_7 1), (B h_16), (B c_19), (B u_22), (B c_21), (B u_23), undef, undef, undef, undef, undef, undef, undef, undef, undef, undef, undef, undef, undef, undef, undef, undef, undef, undef, undef, undef, undef, undef, undef, undef, undef, undef, undef, undef, undef, undef, undef], defers := [] } : Act) := haZ.trans (by kernel_rfl)
  subst eZ
  clear haZ
  replace RR : Hid (RB w w11 [(g1_7, #[B s_12, B s_20, B l_6, B l_7]), (g1_6, #[B h_0, B h_1, B h_2, B h_3]), (w.heap.size + 1 + 1, Zr), (w.heap.size + 1, (Ar y)), (w.heap.size, (Ar x))]) := ⟨F.bw, (RowsAt.cons (F.row 4 rfl) (RowsAt.cons (F.row 3 rfl) (RowsAt.cons (F.row 2 rfl) (RowsAt.cons (F.row 1 rfl) (RowsAt.cons (F.row 0 rfl) RowsAt.nil)))))⟩
  clear F qT q0 q1 q2 q3 q4
  go_wp2
  rw [rounds_succ]
  go_upto_region 7 with fail
  obtain ⟨q4, q3, q2, q1, q0, qT⟩ := RR.out.r.lts
  refine wp_region_told (by kernel_rfl) (by kernel_rfl) (by kernel_rfl) [(w.heap.size, (Ar x)), (w.heap.size + 1, (Ar y)), (w.heap.size + 1 + 1, Zr), (g1_6, #[B h_0, B h_1, B h_2, B h_3]), (g1_7, #[B s_12, B s_20, B l_6, B l_7])]
    [sV (.int .i64 2),
     sV (PO g1_6 2),
     sV (B h_2),
     sV (.int .u64 4294968273),
     sV (.tuple #[(B h_24), (B l_25)]),
     sV (.tuple #[(B h_24), (B l_25)]),
     sV (B h_24),
     sV (B l_25),
     sV (B h_24),
     sV (B l_25)]
    (by kernel_rfl) RR.out.b (RowsAt.cons (RR.out.at 4 rfl) (RowsAt.cons (RR.out.at 3 rfl) (RowsAt.cons (RR.out.at 2 rfl) (RowsAt.cons (RR.out.at 1 rfl) (RowsAt.cons (RR.out.at 0 rfl) RowsAt.nil))))) (StOk.of [] rfl StM.nil)
    (Obs.val (fun a' w' E => ob_move (.tmp 9) rfl (E.old 9 (by kernel_rfl)))
    (Obs.val (fun a' w' E => ob_indexAddr 24 (.tmp 6) (.tmp 33) rfl (E.old 6 (by kernel_rfl)) (E.new (v := (.int .i64 2)) 33 0 (by kernel_rfl) rfl) (ix24_2 _ _ w'))
    (Obs.val (fun a' w' E => ob_load1 22 (.tmp 34) rfl (E.new (v := (PO g1_6 2)) 34 1 (by kernel_rfl) rfl) (E.row (g := g1_6) (c := #[B h_0, B h_1, B h_2, B h_3]) 3 rfl) Tryd.underlying22 rfl rfl)
    (Obs.val (fun a' w' E => ob_move (.tmp 5) rfl (E.old 5 (by kernel_rfl)))
    (Obs.val (fun a' w' E => ob_fcall 57 _ _ rfl (am2 (E.new (v := (B h_2)) 35 2 (by kernel_rfl) rfl) (E.new (v := (.int .u64 4294968273)) 36 3 (by kernel_rfl) rfl)) (fc57 _ _) (c12.out w'))
    (Obs.val (fun a' w' E => ob_move (.tmp 37) rfl (E.new (v := (.tuple #[(B h_24), (B l_25)])) 37 4 (by kernel_rfl) rfl))
    (Obs.val (fun a' w' E => ob_extract (.tmp 32) 0 rfl (E.new (v := (.tuple #[(B h_24), (B l_25)])) 32 5 (by kernel_rfl) rfl) rfl)
    (Obs.val (fun a' w' E => ob_extract (.tmp 32) 1 rfl (E.new (v := (.tuple #[(B h_24), (B l_25)])) 32 5 (by kernel_rfl) rfl) rfl)
    (Obs.val (fun a' w' E => ob_assign (.tmp 38) rfl (E.new (v := (B h_24)) 38 6 (by kernel_rfl) rfl))
    (Obs.val (fun a' w' E => ob_assign (.tmp 39) rfl (E.new (v := (B l_25)) 39 7 (by kernel_rfl) rfl))
    Obs.nil)))))))))) ?_
  intro bs w12 aZ haZ F
  have eZ : aZ = ({ tmps := #[(U x), (U y), (PT w.heap.size), (PT (w.heap.size + 1)), (PT (w.heap.size + 1 + 1)), (.int .u64 4294968273), (PT g1_6), (PT g1_7), (B u_23), (.int .i64 2), (B h_24), (B l_25), (B s_18), (B c_19), (B s_20), (B c_21), undef, undef, undef, undef, undef, undef, (.tuple #[(.agg #[B h_0, B h_1, B h_2, B h_3]), (.agg #[B l_4, B l_5, B l_6, B l_7])]), (U x), (U y), (.tuple #[(.agg #[B h_0, B h_1, B h_2, B h_3]), (.agg #[B l_4, B l_5, B l_6, B l_7])]), (.agg #[B h_0, B h_1, B h_2, B h_3]), (.agg #[B l_4, B l_5, B l_6, B l_7]), (.int .i64 2), (.bool true), (.int .i64 1), (.int .i64 2), (.tuple #[(B h_24), (B l_25)]), (.int .i64 2), (PO g1_6 2), (B h_2), (.int .u64 4294968273), (.tuple #[(B h_24), (B l_25)]), (B h_24), (B l_25), (.tuple #[(B s_18), (B c_19)]), (.int .i64 1), (PO g1_7 1), (B l_5), (B l_17), (.tuple #[(B s_18), (B c_19)]), (B s_18), (B c_19), (.tuple #[(B s_20), (B c_21)]), (B s_18), (B u_15), (.tuple #[(B s_20), (B c_21)]), (B s_20), (B c_21), (.int .i64 1), (B s_20), (PO g1_7 1), (B h_16), (B c_19), (B u_22), (B c_21), (B u_23), undef, undef, undef, undef, undef, undef, undef, undef, undef, undef, undef, undef, undef, undef, undef, undef, undef, undef, undef, undef, undef, undef, undef, undef, undef, undef, undef, undef, undef, undef, undef], defers := [] } : Act) := haZ.trans (by kernel_rfl)
  subst eZ
  clear haZ
  replace RR : Hid (RB w w12 [(g1_7, #[B s_12, B s_20, B l_6, B l_7]), (g1_6, #[B h_0, B h_1, B h_2, B h_3]), (w.heap.size + 1 + 1, Zr), (w.heap.size + 1, (Ar y)), (w.heap.size, (Ar x))]) := ⟨F.bw, (RowsAt.cons (F.row 4 rfl) (RowsAt.cons (F.row 3 rfl) (RowsAt.cons (F.row 2 rfl) (RowsAt.cons (F.row 1 rfl) (RowsAt.cons (F.row 0 rfl) RowsAt.nil)))))⟩
  clear F qT q0 q1 q2 q3 q4
  go_upto_region 8 with fail
  obtain ⟨q4, q3, q2, q1, q0, qT⟩ := RR.out.r.lts
  refine wp_region_told (by kernel_rfl) (by kernel_rfl) (by kernel_rfl) [(w.heap.size, (Ar x)), (w.heap.size + 1, (Ar y)), (w.heap.size + 1 + 1, Zr), (g1_6, #[B h_0, B h_1, B h_2, B h_3]), (g1_7, #[B s_12, B s_20, B l_6, B l_7])]
    [sV (.int .i64 2),
     sV (PO g1_7 2),
     sV (B l_6),
     sV (B l_25),
     sV (.tuple #[(B s_26), (B c_27)]),
     sV (.tuple #[(B s_26), (B c_27)]),
     sV (B s_26),
     sV (B c_27),
     sV (B s_26),
     sV (B c_27)]
    (by kernel_rfl) RR.out.b (RowsAt.cons (RR.out.at 4 rfl) (RowsAt.cons (RR.out.at 3 rfl) (RowsAt.cons (RR.out.at 2 rfl) (RowsAt.cons (RR.out.at 1 rfl) (RowsAt.cons (RR.out.at 0 rfl) RowsAt.nil))))) (StOk.of [] rfl StM.nil)
    (Obs.val (fun a' w' E => ob_move (.tmp 9) rfl (E.old 9 (by kernel_rfl)))
    (Obs.val (fun a' w' E => ob_indexAddr 24 (.tmp 7) (.tmp 41) rfl (E.old 7 (by kernel_rfl)) (E.new (v := (.int .i64 2)) 41 0 (by kernel_rfl) rfl) (ix24_2 _ _ w'))
    (Obs.val (fun a' w' E => ob_load1 22 (.tmp 42) rfl (E.new (v := (PO g1_7 2)) 42 1 (by kernel_rfl) rfl) (E.row (g := g1_7) (c := #[B s_12, B s_20, B l_6, B l_7]) 4 rfl) Tryd.underlying22 rfl rfl)
    (Obs.val (fun a' w' E => ob_move (.tmp 11) rfl (E.old 11 (by kernel_rfl)))
    (Obs.val (fun a' w' E => ob_xcall 44 _ _ rfl (am3 (E.new (v := (B l_6)) 43 2 (by kernel_rfl) rfl) (E.new (v := (B l_25)) 44 3 (by kernel_rfl) rfl) (evc a' (.int .u64 0))) (xc44 _ _) (c13.out w'))
    (Obs.val (fun a' w' E => ob_move (.tmp 45) rfl (E.new (v := (.tuple #[(B s_26), (B c_27)])) 45 4 (by kernel_rfl) rfl))
    (Obs.val (fun a' w' E => ob_extract (.tmp 40) 0 rfl (E.new (v := (.tuple #[(B s_26), (B c_27)])) 40 5 (by kernel_rfl) rfl) rfl)
    (Obs.val (fun a' w' E => ob_extract (.tmp 40) 1 rfl (E.new (v := (.tuple #[(B s_26), (B c_27)])) 40 5 (by kernel_rfl) rfl) rfl)
    (Obs.val (fun a' w' E => ob_assign (.tmp 46) rfl (E.new (v := (B s_26)) 46 6 (by kernel_rfl) rfl))
    (Obs.val (fun a' w' E => ob_assign (.tmp 47) rfl (E.new (v := (B c_27)) 47 7 (by kernel_rfl) rfl))
    Obs.nil)))))))))) ?_
  intro bs w13 aZ haZ F
  have eZ : aZ = ({ tmps := #[(U x), (U y), (PT w.heap.size), (PT (w.heap.size + 1)), (PT (w.heap.size + 1 + 1)), (.int .u64 4294968273), (PT g1_6), (PT g1_7), (B u_23), (.int .i64 2), (B h_24), (B l_25), (B s_26), (B c_27), (B s_20), (B c_21), undef, undef, undef, undef, undef, undef, (.tuple #[(.agg #[B h_0, B h_1, B h_2, B h_3]), (.agg #[B l_4, B l_5, B l_6, B l_7])]), (U x), (U y), (.tuple #[(.agg #[B h_0, B h_1, B h_2, B h_3]), (.agg #[B l_4, B l_5, B l_6, B l_7])]), (.agg #[B h_0, B h_1, B h_2, B h_3]), (.agg #[B l_4, B l_5, B l_6, B l_7]), (.int .i64 2), (.bool true), (.int .i64 1), (.int .i64 2), (.tuple #[(B h_24), (B l_25)]), (.int .i64 2), (PO g1_6 2), (B h_2), (.int .u64 4294968273), (.tuple #[(B h_24), (B l_25)]), (B h_24), (B l_25), (.tuple #[(B s_26), (B c_27)]), (.int .i64 2), (PO g1_7 2), (B l_6), (B l_25), (.tuple #[(B s_26), (B c_27)]), (B s_26), (B c_27), (.tuple #[(B s_20), (B c_21)]), (B s_18), (B u_15), (.tuple #[(B s_20), (B c_21)]), (B s_20), (B c_21), (.int .i64 1), (B s_20), (PO g1_7 1), (B h_16), (B c_19), (B u_22), (B c_21), (B u_23), undef, undef, undef, undef, undef, undef, undef, undef, undef, undef, undef, undef, undef, undef, undef, undef, undef, undef, undef, undef, undef, undef, undef, undef, undef, undef, undef, undef, undef, undef, undef], defers := [] } : Act) := haZ.trans (by kernel_rfl)
  subst eZ
  clear haZ
  replace RR : Hid (RB w w13 [(g1_7, #[B s_12, B s_20, B l_6, B l_7]), (g1_6, #[B h_0, B h_1, B h_2, B h_3]), (w.heap.size + 1 + 1, Zr), (w.heap.size + 1, (Ar y)), (w.heap.size, (Ar x))]) := ⟨F.bw, (RowsAt.cons (F.row 4 rfl) (RowsAt.cons (F.row 3 rfl) (RowsAt.cons (F.row 2 rfl) (RowsAt.cons (F.row 1 rfl) (RowsAt.cons (F.row 0 rfl) RowsAt.nil)))))⟩
  clear F qT q0 q1 q2 q3 q4
  go_upto_region 9 with fail
  obtain ⟨q4, q3, q2, q1, q0, qT⟩ := RR.out.r.lts
  refine wp_region_told (by kernel_rfl) (by kernel_rfl) (by kernel_rfl) [(w.heap.size, (Ar x)), (w.heap.size + 1, (Ar y)), (w.heap.size + 1 + 1, Zr), (g1_6, #[B h_0, B h_1, B h_2, B h_3]), (g1_7, #[B s_12, B s_20, B l_6, B l_7])]
    [sV (B s_26),
     sV (B u_23),
     sV (.tuple #[(B s_28), (B c_29)]),
     sV (.tuple #[(B s_28), (B c_29)]),
     sV (B s_28),
     sV (B c_29),
     sV (B s_28),
     sV (B c_29)]
    (by kernel_rfl) RR.out.b (RowsAt.cons (RR.out.at 4 rfl) (RowsAt.cons (RR.out.at 3 rfl) (RowsAt.cons (RR.out.at 2 rfl) (RowsAt.cons (RR.out.at 1 rfl) (RowsAt.cons (RR.out.at 0 rfl) RowsAt.nil))))) (StOk.of [] rfl StM.nil)
    (Obs.val (fun a' w' E => ob_move (.tmp 12) rfl (E.old 12 (by kernel_rfl)))
    (Obs.val (fun a' w' E => ob_move (.tmp 8) rfl (E.old 8 (by kernel_rfl)))
    (Obs.val (fun a' w' E => ob_xcall 44 _ _ rfl (am3 (E.new (v := (B s_26)) 49 0 (by kernel_rfl) rfl) (E.new (v := (B u_23)) 50 1 (by kernel_rfl) rfl) (evc a' (.int .u64 0))) (xc44 _ _) (c14.out w'))
    (Obs.val (fun a' w' E => ob_move (.tmp 51) rfl (E.new (v := (.tuple #[(B s_28), (B c_29)])) 51 2 (by kernel_rfl) rfl))
    (Obs.val (fun a' w' E => ob_extract (.tmp 48) 0 rfl (E.new (v := (.tuple #[(B s_28), (B c_29)])) 48 3 (by kernel_rfl) rfl) rfl)
    (Obs.val (fun a' w' E => ob_extract (.tmp 48) 1 rfl (E.new (v := (.tuple #[(B s_28), (B c_29)])) 48 3 (by kernel_rfl) rfl) rfl)
    (Obs.val (fun a' w' E => ob_assign (.tmp 52) rfl (E.new (v := (B s_28)) 52 4 (by kernel_rfl) rfl))
    (Obs.val (fun a' w' E => ob_assign (.tmp 53) rfl (E.new (v := (B c_29)) 53 5 (by kernel_rfl) rfl))
    Obs.nil)))))))) ?_
  intro bs w14 aZ haZ F
  have eZ : aZ = ({ tmps := #[(U x), (U y), (PT w.heap.size), (PT (w.heap.size + 1)), (PT (w.heap.size + 1 + 1)), (.int .u64 4294968273), (PT g1_6), (PT g1_7), (B u_23), (.int .i64 2), (B h_24), (B l_25), (B s_26), (B c_27), (B s_28), (B c_29), undef, undef, undef, undef, undef, undef, (.tuple #[(.agg #[B h_0, B h_1, B h_2, B h_3]), (.agg #[B l_4, B l_5, B l_6, B l_7])]), (U x), (U y), (.tuple #[(.agg #[B h_0, B h_1, B h_2, B h_3]), (.agg #[B l_4, B l_5, B l_6, B l_7])]), (.agg #[B h_0, B h_1, B h_2, B h_3]), (.agg #[B l_4, B l_5, B l_6, B l_7]), (.int .i64 2), (.bool true), (.int .i64 1), (.int .i64 2), (.tuple #[(B h_24), (B l_25)]), (.int .i64 2), (PO g1_6 2), (B h_2), (.int .u64 4294968273), (.tuple #[(B h_24), (B l_25)]), (B h_24), (B l_25), (.tuple #[(B s_26), (B c_27)]), (.int .i64 2), (PO g1_7 2), (B l_6), (B l_25), (.tuple #[(B s_26), (B c_27)]), (B s_26), (B c_27), (.tuple #[(B s_28), (B c_29)]), (B s_26), (B u_23), (.tuple #[(B s_28), (B c_29)]), (B s_28), (B c_29), (.int .i64 1), (B s_20), (PO g1_7 1), (B h_16), (B c_19), (B u_22), (B c_21), (B u_23), undef, undef, undef, undef, undef, undef, undef, undef, undef, undef, undef, undef, undef, undef, undef, undef, undef, undef, undef, undef, undef, undef, undef, undef, undef, undef, undef, undef, undef, undef, undef], defers := [] } : Act) := haZ.trans (by kernel_rfl)
  subst eZ
  clear haZ
  replace RR : Hid (RB w w14 [(g1_7, #[B s_12, B s_20, B l_6, B l_7]), (g1_6, #[B h_0, B h_1, B h_2, B h_3]), (w.heap.size + 1 + 1, Zr), (w.heap.size + 1, (Ar y)), (w.heap.size, (Ar x))]) := ⟨F.bw, (RowsAt.cons (F.row 4 rfl) (RowsAt.cons (F.row 3 rfl) (RowsAt.cons (F.row 2 rfl) (RowsAt.cons (F.row 1 rfl) (RowsAt.cons (F.row 0 rfl) RowsAt.nil)))))⟩
  clear F qT q0 q1 q2 q3 q4
  go_upto_region 10 with fail
  obtain ⟨q4, q3, q2, q1, q0, qT⟩ := RR.out.r.lts
  refine wp_region_told (by kernel_rfl) (by kernel_rfl) (by kernel_rfl) [(w.heap.size, (Ar x)), (w.heap.size + 1, (Ar y)), (w.heap.size + 1 + 1, Zr), (g1_6, #[B h_0, B h_1, B h_2, B h_3])]
    [sV (.int .i64 2),
     sV (B s_28),
     sV (PO g1_7 2),
     sK (g1_7) #[B s_12, B s_20, B l_6, B l_7] #[B s_12, B s_20, B s_28, B l_7]]
    (by kernel_rfl) RR.out.b (RowsAt.cons (RR.out.at 4 rfl) (RowsAt.cons (RR.out.at 3 rfl) (RowsAt.cons (RR.out.at 2 rfl) (RowsAt.cons (RR.out.at 1 rfl) RowsAt.nil)))) (StOk.of [(g1_7, #[B s_12, B s_20, B l_6, B l_7])] rfl (StM.cons (RR.out.at 0 rfl) (by omega) (Apart.cons (by omega) (Apart.cons (by omega) (Apart.cons (by omega) (Apart.cons (by omega) Apart.nil)))) Apart.nil StM.nil))
    (Obs.val (fun a' w' E => ob_move (.tmp 9) rfl (E.old 9 (by kernel_rfl)))
    (Obs.val (fun a' w' E => ob_move (.tmp 14) rfl (E.old 14 (by kernel_rfl)))
    (Obs.val (fun a' w' E => ob_indexAddr 24 (.tmp 7) (.tmp 54) rfl (E.old 7 (by kernel_rfl)) (E.new (v := (.int .i64 2)) 54 0 (by kernel_rfl) rfl) (ix24_2 _ _ w'))
    (Obs.stk (fun a' w' E hr => ob_storea 22 (.tmp 56) (.tmp 55) rfl (E.new (v := (PO g1_7 2)) 56 2 (by kernel_rfl) rfl) (E.new (v := (B s_28)) 55 1 (by kernel_rfl) rfl) rfl hr (by kernel_rfl) (Nat.le_of_ble_eq_true rfl) (by kernel_rfl) rfl)
    Obs.nil)))) ?_
  intro bs w15 aZ haZ F
  have eZ : aZ = ({ tmps := #[(U x), (U y), (PT w.heap.size), (PT (w.heap.size + 1)), (PT (w.heap.size + 1 + 1)), (.int .u64 4294968273), (PT g1_6), (PT g1_7), (B u_23), (.int .i64 2), (B h_24), (B l_25), (B s_26), (B c_27), (B s_28), (B c_29), undef, undef, undef, undef, undef, undef, (.tuple #[(.agg #[B h_0, B h_1, B h_2, B h_3]), (.agg #[B l_4, B l_5, B l_6, B l_7])]), (U x), (U y), (.tuple #[(.agg #[B h_0, B h_1, B h_2, B h_3]), (.agg #[B l_4, B l_5, B l_6, B l_7])]), (.agg #[B h_0, B h_1, B h_2, B h_3]), (.agg #[B l_4, B l_5, B l_6, B l_7]), (.int .i64 2), (.bool true), (.int .i64 1), (.int .i64 2), (.tuple #[(B h_24), (B l_25)]), (.int .i64 2), (PO g1_6 2), (B h_2), (.int .u64 4294968273), (.tuple #[(B h_24), (B l_25)]), (B h_24), (B l_25), (.tuple #[(B s_26), (B c_27)]), (.int .i64 2), (PO g1_7 2), (B l_6), (B l_25), (.tuple #[(B s_26), (B c_27)]), (B s_26), (B c_27), (.tuple #[(B s_28), (B c_29)]), (B s_26), (B u_23), (.tuple #[(B s_28), (B c_29)]), (B s_28), (B c_29), (.int .i64 2), (B s_28), (PO g1_7 2), (B h_16), (B c_19), (B u_22), (B c_21), (B u_23), undef, undef, undef, undef, undef, undef, undef, undef, undef, undef, undef, undef, undef, undef, undef, undef, undef, undef, undef, undef, undef, undef, undef, undef, undef, undef, undef, undef, undef, undef, undef], defers := [] } : Act) := haZ.trans (by kernel_rfl)
  subst eZ
  clear haZ
  replace RR : Hid (RB w w15 [(g1_7, #[B s_12, B s_20, B s_28, B l_7]), (g1_6, #[B h_0, B h_1, B h_2, B h_3]), (w.heap.size + 1 + 1, Zr), (w.heap.size + 1, (Ar y)), (w.heap.size, (Ar x))]) := ⟨F.bw, (RowsAt.cons (F.sk 3 rfl) (RowsAt.cons (F.row 3 rfl) (RowsAt.cons (F.row 2 rfl) (RowsAt.cons (F.row 1 rfl) (RowsAt.cons (F.row 0 rfl) RowsAt.nil)))))⟩
  clear F qT q0 q1 q2 q3 q4
  go_upto_region 11 with fail
  obtain ⟨q4, q3, q2, q1, q0, qT⟩ := RR.out.r.lts
  refine wp_region_told (by kernel_rfl) (by kernel_rfl) (by kernel_rfl) [(w.heap.size, (Ar x)), (w.heap.size + 1, (Ar y)), (w.heap.size + 1 + 1, Zr), (g1_6, #[B h_0, B h_1, B h_2, B h_3]), (g1_7, #[B s_12, B s_20, B s_28, B l_7])]
    [sV (B h_24),
     sV (B c_27),
     sV (B u_30),
     sV (B c_29),
     sV (B u_31),
     sV (B u_31)]
    (by kernel_rfl) RR.out.b (RowsAt.cons (RR.out.at 4 rfl) (RowsAt.cons (RR.out.at 3 rfl) (RowsAt.cons (RR.out.at 2 rfl) (RowsAt.cons (RR.out.at 1 rfl) (RowsAt.cons (RR.out.at 0 rfl) RowsAt.nil))))) (StOk.of [] rfl StM.nil)
    (Obs.val (fun a' w' E => ob_move (.tmp 10) rfl (E.old 10 (by kernel_rfl)))
    (Obs.val (fun a' w' E => ob_move (.tmp 13) rfl (E.old 13 (by kernel_rfl)))
    (Obs.val (fun a' w' E => ob_binOp .add 22 (.tmp 57) (.tmp 58) 22 rfl (E.new (v := (B h_24)) 57 0 (by kernel_rfl) rfl) (E.new (v := (B c_27)) 58 1 (by kernel_rfl) rfl) (by simp [go_sem, e15]))
    (Obs.val (fun a' w' E => ob_move (.tmp 15) rfl (E.old 15 (by kernel_rfl)))
    (Obs.val (fun a' w' E => ob_binOp .add 22 (.tmp 59) (.tmp 60) 22 rfl (E.new (v := (B u_30)) 59 2 (by kernel_rfl) rfl) (E.new (v := (B c_29)) 60 3 (by kernel_rfl) rfl) (by simp [go_sem, e16]))
    (Obs.val (fun a' w' E => ob_assign (.tmp 61) rfl (E.new (v := (B u_31)) 61 4 (by kernel_rfl) rfl))
    Obs.nil)))))) ?_
  intro bs w16 aZ haZ F
  have eZ : aZ = ({ tmps := #[(U x), (U y), (PT w.heap.size), (PT (w.heap.size + 1)), (PT (w.heap.size + 1 + 1)), (.int .u64 4294968273), (PT g1_6), (PT g1_7), (B u_31), (.int .i64 2), (B h_24), (B l_25), (B s_26), (B c_27), (B s_28), (B c_29), undef, undef, undef, undef, undef, undef, (.tuple #[(.agg #[B h_0, B h_1, B h_2, B h_3]), (.agg #[B l_4, B l_5, B l_6, B l_7])]), (U x), (U y), (.tuple #[(.agg #[B h_0, B h_1, B h_2, B h_3]), (.agg #[B l_4, B l_5, B l_6, B l_7])]), (.agg #[B h_0, B h_1, B h_2, B h_3]), (.agg #[B l_4, B l_5, B l_6, B l_7]), (.int .i64 2), (.bool true), (.int .i64 1), (.int .i64 2), (.tuple #[(B h_24), (B l_25)]), (.int .i64 2), (PO g1_6 2), (B h_2), (.int .u64 4294968273), (.tuple #[(B h_24), (B l_25)]), (B h_24), (B l_25), (.tuple #[(B s_26), (B c_27)]), (.int .i64 2), (PO g1_7 2), (B l_6), (B l_25), (.tuple #[(B s_26), (B c_27)]), (B s_26), (B c_27), (.tuple #[(B s_28), (B c_29)]), (B s_26), (B u_23), (.tuple #[(B s_28), (B c_29)]), (B s_28), (B c_29), (.int .i64 2), (B s_28), (PO g1_7 2), (B h_24), (B c_27), (B u_30), (B c_29), (B u_31), undef, undef, undef, undef, undef, undef, undef, undef, undef, undef, undef, undef, undef, undef, undef, undef, undef, undef, undef, undef, undef, undef, undef, undef, undef, undef, undef, undef, undef, undef, undef], defers := [] } : Act) := haZ.trans (by kernel_rfl)
  subst eZ
  clear haZ
  replace RR : Hid (RB w w16 [(g1_7, #[B s_12, B s_20, B s_28, B l_7]), (g1_6, #[B h_0, B h_1, B h_2, B h_3]), (w.heap.size + 1 + 1, Zr), (w.heap.size + 1, (Ar y)), (w.heap.size, (Ar x))]) := ⟨F.bw, (RowsAt.cons (F.row 4 rfl) (RowsAt.cons (F.row 3 rfl) (RowsAt.cons (F.row 2 rfl) (RowsAt.cons (F.row 1 rfl) (RowsAt.cons (F.row 0 rfl) RowsAt.nil)))))⟩
  clear F qT q0 q1 q2 q3 q4
  go_wp2
  rw [rounds_succ]
  go_upto_region 7 with fail
  obtain ⟨q4, q3, q2, q1, q0, qT⟩ := RR.out.r.lts
  refine wp_region_told (by kernel_rfl) (by kernel_rfl) (by kernel_rfl) [(w.heap.size, (Ar x)), (w.heap.size + 1, (Ar y)), (w.heap.size + 1 + 1, Zr), (g1_6, #[B h_0, B h_1, B h_2, B h_3]), (g1_7, #[B s_12, B s_20, B s_28, B l_7])]
    [sV (.int .i64 3),
     sV (PO g1_6 3),
     sV (B h_3),
     sV (.int .u64 4294968273),
     sV (.tuple #[(B h_32), (B l_33)]),
     sV (.tuple #[(B h_32), (B l_33)]),
     sV (B h_32),
     sV (B l_33),
     sV (B h_32),
     sV (B l_33)]
    (by kernel_rfl) RR.out.b (RowsAt.cons (RR.out.at 4 rfl) (RowsAt.cons (RR.out.at 3 rfl) (RowsAt.cons (RR.out.at 2 rfl) (RowsAt.cons (RR.out.at 1 rfl) (RowsAt.cons (RR.out.at 0 rfl) RowsAt.nil))))) (StOk.of [] rfl StM.nil)
    (Obs.val (fun a' w' E => ob_move (.tmp 9) rfl (E.old 9 (by kernel_rfl)))
    (Obs.val (fun a' w' E => ob_indexAddr 24 (.tmp 6) (.tmp 33) rfl (E.old 6 (by kernel_rfl)) (E.new (v := (.int .i64 3)) 33 0 (by kernel_rfl) rfl) (ix24_3 _ _ w'))
    (Obs.val (fun a' w' E => ob_load1 22 (.tmp 34) rfl (E.new (v := (PO g1_6 3)) 34 1 (by kernel_rfl) rfl) (E.row (g := g1_6) (c := #[B h_0, B h_1, B h_2, B h_3]) 3 rfl) Tryd.underlying22 rfl rfl)
    (Obs.val (fun a' w' E => ob_move (.tmp 5) rfl (E.old 5 (by kernel_rfl)))
    (Obs.val (fun a' w' E => ob_fcall 57 _ _ rfl (am2 (E.new (v := (B h_3)) 35 2 (by kernel_rfl) rfl) (E.new (v := (.int .u64 4294968273)) 36 3 (by kernel_rfl) rfl)) (fc57 _ _) (c17.out w'))
    (Obs.val (fun a' w' E => ob_move (.tmp 37) rfl (E.new (v := (.tuple #[(B h_32), (B l_33)])) 37 4 (by kernel_rfl) rfl))
    (Obs.val (fun a' w' E => ob_extract (.tmp 32) 0 rfl (E.new (v := (.tuple #[(B h_32), (B l_33)])) 32 5 (by kernel_rfl) rfl) rfl)
    (Obs.val (fun a' w' E => ob_extract (.tmp 32) 1 rfl (E.new (v := (.tuple #[(B h_32), (B l_33)])) 32 5 (by kernel_rfl) rfl) rfl)
    (Obs.val (fun a' w' E => ob_assign (.tmp 38) rfl (E.new (v := (B h_32)) 38 6 (by kernel_rfl) rfl))
    (Obs.val (fun a' w' E => ob_assign (.tmp 39) rfl (E.new (v := (B l_33)) 39 7 (by kernel_rfl) rfl))
    Obs.nil)))))))))) ?_
  intro bs w17 aZ haZ F
  have eZ : aZ = ({ tmps := #[(U x), (U y), (PT w.heap.size), (PT (w.heap.size + 1)), (PT (w.heap.size + 1 + 1)), (.int .u64 4294968273), (PT g1_6), (PT g1_7), (B u_31), (.int .i64 3), (B h_32), (B l_33), (B s_26), (B c_27), (B s_28), (B c_29), undef, undef, undef, undef, undef, undef, (.tuple #[(.agg #[B h_0, B h_1, B h_2, B h_3]), (.agg #[B l_4, B l_5, B l_6, B l_7])]), (U x), (U y), (.tuple #[(.agg #[B h_0, B h_1, B h_2, B h_3]), (.agg #[B l_4, B l_5, B l_6, B l_7])]), (.agg #[B h_0, B h_1, B h_2, B h_3]), (.agg #[B l_4, B l_5, B l_6, B l_7]), (.int .i64 3), (.bool true), (.int .i64 2), (.int .i64 3), (.tuple #[(B h_32), (B l_33)]), (.int .i64 3), (PO g1_6 3), (B h_3), (.int .u64 4294968273), (.tuple #[(B h_32), (B l_33)]), (B h_32), (B l_33), (.tuple #[(B s_26), (B c_27)]), (.int .i64 2), (PO g1_7 2), (B l_6), (B l_25), (.tuple #[(B s_26), (B c_27)]), (B s_26), (B c_27), (.tuple #[(B s_28), (B c_29)]), (B s_26), (B u_23), (.tuple #[(B s_28), (B c_29)]), (B s_28), (B c_29), (.int .i64 2), (B s_28), (PO g1_7 2), (B h_24), (B c_27), (B u_30), (B c_29), (B u_31), undef, undef, undef, undef, undef, undef, undef, undef, undef, undef, undef, undef, undef, undef, undef, undef, undef, undef, undef, undef, undef, undef, undef, undef, undef, undef, undef, undef, undef, undef, undef], defers := [] } : Act) := haZ.trans (by kernel_rfl)
  subst eZ
  clear haZ
  replace RR : Hid (RB w w17 [(g1_7, #[B s_12, B s_20, B s_28, B l_7]), (g1_6, #[B h_0, B h_1, B h_2, B h_3]), (w.heap.size + 1 + 1, Zr), (w.heap.size + 1, (Ar y)), (w.heap.size, (Ar x))]) := ⟨F.bw, (RowsAt.cons (F.row 4 rfl) (RowsAt.cons (F.row 3 rfl) (RowsAt.cons (F.row 2 rfl) (RowsAt.cons (F.row 1 rfl) (RowsAt.cons (F.row 0 rfl) RowsAt.nil)))))⟩
  clear F qT q0 q1 q2 q3 q4
  go_upto_region 8 with fail
  obtain ⟨q4, q3, q2, q1, q0, qT⟩ := RR.out.r.lts
  refine wp_region_told (by kernel_rfl) (by kernel_rfl) (by kernel_rfl) [(w.heap.size, (Ar x)), (w.heap.size + 1, (Ar y)), (w.heap.size + 1 + 1, Zr), (g1_6, #[B h_0, B h_1, B h_2, B h_3]), (g1_7, #[B s_12, B s_20, B s_28, B l_7])]
    [sV (.int .i64 3),
     sV (PO g1_7 3),
     sV (B l_7),
     sV (B l_33),
     sV (.tuple #[(B s_34), (B c_35)]),
     sV (.tuple #[(B s_34), (B c_35)]),
     sV (B s_34),
     sV (B c_35),
     sV (B s_34),
     sV (B c_35)]
    (by kernel_rfl) RR.out.b (RowsAt.cons (RR.out.at 4 rfl) (RowsAt.cons (RR.out.at 3 rfl) (RowsAt.cons (RR.out.at 2 rfl) (RowsAt.cons (RR.out.at 1 rfl) (RowsAt.cons (RR.out.at 0 rfl) RowsAt.nil))))) (StOk.of [] rfl StM.nil)
    (Obs.val (fun a' w' E => ob_move (.tmp 9) rfl (E.old 9 (by kernel_rfl)))
    (Obs.val (fun a' w' E => ob_indexAddr 24 (.tmp 7) (.tmp 41) rfl (E.old 7 (by kernel_rfl)) (E.new (v := (.int .i64 3)) 41 0 (by kernel_rfl) rfl) (ix24_3 _ _ w'))
    (Obs.val (fun a' w' E => ob_load1 22 (.tmp 42) rfl (E.new (v := (PO g1_7 3)) 42 1 (by kernel_rfl) rfl) (E.row (g := g1_7) (c := #[B s_12, B s_20, B s_28, B l_7]) 4 rfl) Tryd.underlying22 rfl rfl)
    (Obs.val (fun a' w' E => ob_move (.tmp 11) rfl (E.old 11 (by kernel_rfl)))
    (Obs.val (fun a' w' E => ob_xcall 44 _ _ rfl (am3 (E.new (v := (B l_7)) 43 2 (by kernel_rfl) rfl) (E.new (v := (B l_33)) 44 3 (by kernel_rfl) rfl) (evc a' (.int .u64 0))) (xc44 _ _) (c18.out w'))
    (Obs.val (fun a' w' E => ob_move (.tmp 45) rfl (E.new (v := (.tuple #[(B s_34), (B c_35)])) 45 4 (by kernel_rfl) rfl))
    (Obs.val (fun a' w' E => ob_extract (.tmp 40) 0 rfl (E.new (v := (.tuple #[(B s_34), (B c_35)])) 40 5 (by kernel_rfl) rfl) rfl)
    (Obs.val (fun a' w' E => ob_extract (.tmp 40) 1 rfl (E.new (v := (.tuple #[(B s_34), (B c_35)])) 40 5 (by kernel_rfl) rfl) rfl)
    (Obs.val (fun a' w' E => ob_assign (.tmp 46) rfl (E.new (v := (B s_34)) 46 6 (by kernel_rfl) rfl))
    (Obs.val (fun a' w' E => ob_assign (.tmp 47) rfl (E.new (v := (B c_35)) 47 7 (by kernel_rfl) rfl))
    Obs.nil)))))))))) ?_
  intro bs w18 aZ haZ F
  have eZ : aZ = ({ tmps := #[(U x), (U y), (PT w.heap.size), (PT (w.heap.size + 1)), (PT (w.heap.size + 1 + 1)), (.int .u64 4294968273), (PT g1_6), (PT g1_7), (B u_31), (.int .i64 3), (B h_32), (B l_33), (B s_34), (B c_35), (B s_28), (B c_29), undef, undef, undef, undef, undef, undef, (.tuple #[(.agg #[B h_0, B h_1, B h_2, B h_3]), (.agg #[B l_4, B l_5, B l_6, B l_7])]), (U x), (U y), (.tuple #[(.agg #[B h_0, B h_1, B h_2, B h_3]), (.agg #[B l_4, B l_5, B l_6, B l_7])]), (.agg #[B h_0, B h_1, B h_2, B h_3]), (.agg #[B l_4, B l_5, B l_6, B l_7]), (.int .i64 3), (.bool true), (.int .i64 2), (.int .i64 3), (.tuple #[(B h_32), (B l_33)]), (.int .i64 3), (PO g1_6 3), (B h_3), (.int .u64 4294968273), (.tuple #[(B h_32), (B l_33)]), (B h_32), (B l_33), (.tuple #[(B s_34), (B c_35)]), (.int .i64 3), (PO g1_7 3), (B l_7), (B l_33), (.tuple #[(B s_34), (B c_35)]), (B s_34), (B c_35), (.tuple #[(B s_28), (B c_29)]), (B s_26), (B u_23), (.tuple #[(B s_28), (B c_29)]), (B s_28), (B c_29), (.int .i64 2), (B s_28), (PO g1_7 2), (B h_24), (B c_27), (B u_30), (B c_29), (B u_31), undef, undef, undef, undef, undef, undef, undef, undef, undef, undef, undef, undef, undef, undef, undef, undef, undef, undef, undef, undef, undef, undef, undef, undef, undef, undef, undef, undef, undef, undef, undef], defers := [] } : Act) := haZ.trans (by kernel_rfl)
  subst eZ
  clear haZ
  replace RR : Hid (RB w w18 [(g1_7, #[B s_12, B s_20, B s_28, B l_7]), (g1_6, #[B h_0, B h_1, B h_2, B h_3]), (w.heap.size + 1 + 1, Zr), (w.heap.size + 1, (Ar y)), (w.heap.size, (Ar x))]) := ⟨F.bw, (RowsAt.cons (F.row 4 rfl) (RowsAt.cons (F.row 3 rfl) (RowsAt.cons (F.row 2 rfl) (RowsAt.cons (F.row 1 rfl) (RowsAt.cons (F.row 0 rfl) RowsAt.nil)))))⟩
  clear F qT q0 q1 q2 q3 q4
  go_upto_region 9 with fail
  obtain ⟨q4, q3, q2, q1, q0, qT⟩ := RR.out.r.lts
  refine wp_region_told (by kernel_rfl) (by kernel_rfl) (by kernel_rfl) [(w.heap.size, (Ar x)), (w.heap.size + 1, (Ar y)), (w.heap.size + 1 + 1, Zr), (g1_6, #[B h_0, B h_1, B h_2, B h_3]), (g1_7, #[B s_12, B s_20, B s_28, B l_7])]
    [sV (B s_34),
     sV (B u_31),
     sV (.tuple #[(B s_36), (B c_37)]),
     sV (.tuple #[(B s_36), (B c_37)]),
     sV (B s_36),
     sV (B c_37),
     sV (B s_36),
     sV (B c_37)]
    (by kernel_rfl) RR.out.b (RowsAt.cons (RR.out.at 4 rfl) (RowsAt.cons (RR.out.at 3 rfl) (RowsAt.cons (RR.out.at 2 rfl) (RowsAt.cons (RR.out.at 1 rfl) (RowsAt.cons (RR.out.at 0 rfl) RowsAt.nil))))) (StOk.of [] rfl StM.nil)
    (Obs.val (fun a' w' E => ob_move (.tmp 12) rfl (E.old 12 (by kernel_rfl)))
    (Obs.val (fun a' w' E => ob_move (.tmp 8) rfl (E.old 8 (by kernel_rfl)))
    (Obs.val (fun a' w' E => ob_xcall 44 _ _ rfl (am3 (E.new (v := (B s_34)) 49 0 (by kernel_rfl) rfl) (E.new (v := (B u_31)) 50 1 (by kernel_rfl) rfl) (evc a' (.int .u64 0))) (xc44 _ _) (c19.out w'))
    (Obs.val (fun a' w' E => ob_move (.tmp 51) rfl (E.new (v := (.tuple #[(B s_36), (B c_37)])) 51 2 (by kernel_rfl) rfl))
    (Obs.val (fun a' w' E => ob_extract (.tmp 48) 0 rfl (E.new (v := (.tuple #[(B s_36), (B c_37)])) 48 3 (by kernel_rfl) rfl) rfl)
    (Obs.val (fun a' w' E => ob_extract (.tmp 48) 1 rfl (E.new (v := (.tuple #[(B s_36), (B c_37)])) 48 3 (by kernel_rfl) rfl) rfl)
    (Obs.val (fun a' w' E => ob_assign (.tmp 52) rfl (E.new (v := (B s_36)) 52 4 (by kernel_rfl) rfl))
    (Obs.val (fun a' w' E => ob_assign (.tmp 53) rfl (E.new (v := (B c_37)) 53 5 (by kernel_rfl) rfl))
    Obs.nil)))))))) ?_
  intro bs w19 aZ haZ F
  have eZ : aZ = ({ tmps := #[(U x), (U y), (PT w.heap.size), (PT (w.heap.size + 1)), (PT (w.heap.size + 1 + 1)), (.int .u64 4294968273), (PT g1_6), (PT g1_7), (B u_31), (.int .i64 3), (B h_32), (B l_33), (B s_34), (B c_35), (B s_36), (B c_37), undef, undef, undef, undef, undef, undef, (.tuple #[(.agg #[B h_0, B h_1, B h_2, B h_3]), (.agg #[B l_4, B l_5, B l_6, B l_7])]), (U x), (U y), (.tuple #[(.agg #[B h_0, B h_1, B h_2, B h_3]), (.agg #[B l_4, B l_5, B l_6, B l_7])]), (.agg #[B h_0, B h_1, B h_2, B h_3]), (.agg #[B l_4, B l_5, B l_6, B l_7]), (.int .i64 3), (.bool true), (.int .i64 2), (.int .i64 3), (.tuple #[(B h_32), (B l_33)]), (.int .i64 3), (PO g1_6 3), (B h_3), (.int .u64 4294968273), (.tuple #[(B h_32), (B l_33)]), (B h_32), (B l_33), (.tuple #[(B s_34), (B c_35)]), (.int .i64 3), (PO g1_7 3), (B l_7), (B l_33), (.tuple #[(B s_34), (B c_35)]), (B s_34), (B c_35), (.tuple #[(B s_36), (B c_37)]), (B s_34), (B u_31), (.tuple #[(B s_36), (B c_37)]), (B s_36), (B c_37), (.int .i64 2), (B s_28), (PO g1_7 2), (B h_24), (B c_27), (B u_30), (B c_29), (B u_31), undef, undef, undef, undef, undef, undef, undef, undef, undef, undef, undef, undef, undef, undef, undef, undef, undef, undef, undef, undef, undef, undef, undef, undef, undef, undef, undef, undef, undef, undef, undef], defers := [] } : Act) := haZ.trans (by kernel_rfl)
  subst eZ
  clear haZ
  replace RR : Hid (RB w w19 [(g1_7, #[B s_12, B s_20, B s_28, B l_7]), (g1_6, #[B h_0, B h_1, B h_2, B h_3]), (w.heap.size + 1 + 1, Zr), (w.heap.size + 1, (Ar y)), (w.heap.size, (Ar x))]) := ⟨F.bw, (RowsAt.cons (F.row 4 rfl) (RowsAt.cons (F.row 3 rfl) (RowsAt.cons (F.row 2 rfl) (RowsAt.cons (F.row 1 rfl) (RowsAt.cons (F.row 0 rfl) RowsAt.nil)))))⟩
  clear F qT q0 q1 q2 q3 q4
  go_upto_region 10 with fail
  obtain ⟨q4, q3, q2, q1, q0, qT⟩ := RR.out.r.lts
  refine wp_region_told (by kernel_rfl) (by kernel_rfl) (by kernel_rfl) [(w.heap.size, (Ar x)), (w.heap.size + 1, (Ar y)), (w.heap.size + 1 + 1, Zr), (g1_6, #[B h_0, B h_1, B h_2, B h_3])]
    [sV (.int .i64 3),
     sV (B s_36),
     sV (PO g1_7 3),
     sK (g1_7) #[B s_12, B s_20, B s_28, B l_7] #[B s_12, B s_20, B s_28, B s_36]]
    (by kernel_rfl) RR.out.b (RowsAt.cons (RR.out.at 4 rfl) (RowsAt.cons (RR.out.at 3 rfl) (RowsAt.cons (RR.out.at 2 rfl) (RowsAt.cons (RR.out.at 1 rfl) RowsAt.nil)))) (StOk.of [(g1_7, #[B s_12, B s_20, B s_28, B l_7])] rfl (StM.cons (RR.out.at 0 rfl) (by omega) (Apart.cons (by omega) (Apart.cons (by omega) (Apart.cons (by omega) (Apart.cons (by omega) Apart.nil)))) Apart.nil StM.nil))
    (Obs.val (fun a' w' E => ob_move (.tmp 9) rfl (E.old 9 (by kernel_rfl)))
    (Obs.val (fun a' w' E => ob_move (.tmp 14) rfl (E.old 14 (by kernel_rfl)))
    (Obs.val (fun a' w' E => ob_indexAddr 24 (.tmp 7) (.tmp 54) rfl (E.old 7 (by kernel_rfl)) (E.new (v := (.int .i64 3)) 54 0 (by kernel_rfl) rfl) (ix24_3 _ _ w'))
    (Obs.stk (fun a' w' E hr => ob_storea 22 (.tmp 56) (.tmp 55) rfl (E.new (v := (PO g1_7 3)) 56 2 (by kernel_rfl) rfl) (E.new (v := (B s_36)) 55 1 (by kernel_rfl) rfl) rfl hr (by kernel_rfl) (Nat.le_of_ble_eq_true rfl) (by kernel_rfl) rfl)
    Obs.nil)))) ?_
  intro bs w20 aZ haZ F
  have eZ : aZ = ({ tmps := #[(U x), (U y), (PT w.heap.size), (PT (w.heap.size + 1)), (PT (w.heap.size + 1 + 1)), (.int .u64 4294968273), (PT g1_6), (PT g1_7), (B u_31), (.int .i64 3), (B h_32), (B l_33), (B s_34), (B c_35), (B s_36), (B c_37), undef, undef, undef, undef, undef, undef, (.tuple #[(.agg #[B h_0, B h_1, B h_2, B h_3]), (.agg #[B l_4, B l_5, B l_6, B l_7])]), (U x), (U y), (.tuple #[(.agg #[B h_0, B h_1, B h_2, B h_3]), (.agg #[B l_4, B l_5, B l_6, B l_7])]), (.agg #[B h_0, B h_1, B h_2, B h_3]), (.agg #[B l_4, B l_5, B l_6, B l_7]), (.int .i64 3), (.bool true), (.int .i64 2), (.int .i64 3), (.tuple #[(B h_32), (B l_33)]), (.int .i64 3), (PO g1_6 3), (B h_3), (.int .u64 4294968273), (.tuple #[(B h_32), (B l_33)]), (B h_32), (B l_33), (.tuple #[(B s_34), (B c_35)]), (.int .i64 3), (PO g1_7 3), (B l_7), (B l_33), (.tuple #[(B s_34), (B c_35)]), (B s_34), (B c_35), (.tuple #[(B s_36), (B c_37)]), (B s_34), (B u_31), (.tuple #[(B s_36), (B c_37)]), (B s_36), (B c_37), (.int .i64 3), (B s_36), (PO g1_7 3), (B h_24), (B c_27), (B u_30), (B c_29), (B u_31), undef, undef, undef, undef, undef, undef, undef, undef, undef, undef, undef, undef, undef, undef, undef, undef, undef, undef, undef, undef, undef, undef, undef, undef, undef, undef, undef, undef, undef, undef, undef], defers := [] } : Act) := haZ.trans (by kernel_rfl)
  subst eZ
  clear haZ
  replace RR : Hid (RB w w20 [(g1_7, #[B s_12, B s_20, B s_28, B s_36]), (g1_6, #[B h_0, B h_1, B h_2, B h_3]), (w.heap.size + 1 + 1, Zr), (w.heap.size + 1, (Ar y)), (w.heap.size, (Ar x))]) := ⟨F.bw, (RowsAt.cons (F.sk 3 rfl) (RowsAt.cons (F.row 3 rfl) (RowsAt.cons (F.row 2 rfl) (RowsAt.cons (F.row 1 rfl) (RowsAt.cons (F.row 0 rfl) RowsAt.nil)))))⟩
  clear F qT q0 q1 q2 q3 q4
  go_upto_region 11 with fail
  obtain ⟨q4, q3, q2, q1, q0, qT⟩ := RR.out.r.lts
  refine wp_region_told (by kernel_rfl) (by kernel_rfl) (by kernel_rfl) [(w.heap.size, (Ar x)), (w.heap.size + 1, (Ar y)), (w.heap.size + 1 + 1, Zr), (g1_6, #[B h_0, B h_1, B h_2, B h_3]), (g1_7, #[B s_12, B s_20, B s_28, B s_36])]
    [sV (B h_32),
     sV (B c_35),
     sV (B u_38),
     sV (B c_37),
     sV (B u_39),
     sV (B u_39)]
    (by kernel_rfl) RR.out.b (RowsAt.cons (RR.out.at 4 rfl) (RowsAt.cons (RR.out.at 3 rfl) (RowsAt.cons (RR.out.at 2 rfl) (RowsAt.cons (RR.out.at 1 rfl) (RowsAt.cons (RR.out.at 0 rfl) RowsAt.nil))))) (StOk.of [] rfl StM.nil)
    (Obs.val (fun a' w' E => ob_move (.tmp 10) rfl (E.old 10 (by kernel_rfl)))
    (Obs.val (fun a' w' E => ob_move (.tmp 13) rfl (E.old 13 (by kernel_rfl)))
    (Obs.val (fun a' w' E => ob_binOp .add 22 (.tmp 57) (.tmp 58) 22 rfl (E.new (v := (B h_32)) 57 0 (by kernel_rfl) rfl) (E.new (v := (B c_35)) 58 1 (by kernel_rfl) rfl) (by simp [go_sem, e20]))
    (Obs.val (fun a' w' E => ob_move (.tmp 15) rfl (E.old 15 (by kernel_rfl)))
    (Obs.val (fun a' w' E => ob_binOp .add 22 (.tmp 59) (.tmp 60) 22 rfl (E.new (v := (B u_38)) 59 2 (by kernel_rfl) rfl) (E.new (v := (B c_37)) 60 3 (by kernel_rfl) rfl) (by simp [go_sem, e21]))
    (Obs.val (fun a' w' E => ob_assign (.tmp 61) rfl (E.new (v := (B u_39)) 61 4 (by kernel_rfl) rfl))
    Obs.nil)))))) ?_
  intro bs w21 aZ haZ F
  have eZ : aZ = ({ tmps := #[(U x), (U y), (PT w.heap.size), (PT (w.heap.size + 1)), (PT (w.heap.size + 1 + 1)), (.int .u64 4294968273), (PT g1_6), (PT g1_7), (B u_39), (.int .i64 3), (B h_32), (B l_33), (B s_34), (B c_35), (B s_36), (B c_37), undef, undef, undef, undef, undef, undef, (.tuple #[(.agg #[B h_0, B h_1, B h_2, B h_3]), (.agg #[B l_4, B l_5, B l_6, B l_7])]), (U x), (U y), (.tuple #[(.agg #[B h_0, B h_1, B h_2, B h_3]), (.agg #[B l_4, B l_5, B l_6, B l_7])]), (.agg #[B h_0, B h_1, B h_2, B h_3]), (.agg #[B l_4, B l_5, B l_6, B l_7]), (.int .i64 3), (.bool true), (.int .i64 2), (.int .i64 3), (.tuple #[(B h_32), (B l_33)]), (.int .i64 3), (PO g1_6 3), (B h_3), (.int .u64 4294968273), (.tuple #[(B h_32), (B l_33)]), (B h_32), (B l_33), (.tuple #[(B s_34), (B c_35)]), (.int .i64 3), (PO g1_7 3), (B l_7), (B l_33), (.tuple #[(B s_34), (B c_35)]), (B s_34), (B c_35), (.tuple #[(B s_36), (B c_37)]), (B s_34), (B u_31), (.tuple #[(B s_36), (B c_37)]), (B s_36), (B c_37), (.int .i64 3), (B s_36), (PO g1_7 3), (B h_32), (B c_35), (B u_38), (B c_37), (B u_39), undef, undef, undef, undef, undef, undef, undef, undef, undef, undef, undef, undef, undef, undef, undef, undef, undef, undef, undef, undef, undef, undef, undef, undef, undef, undef, undef, undef, undef, undef, undef], defers := [] } : Act) := haZ.trans (by kernel_rfl)
  subst eZ
  clear haZ
  replace RR : Hid (RB w w21 [(g1_7, #[B s_12, B s_20, B s_28, B s_36]), (g1_6, #[B h_0, B h_1, B h_2, B h_3]), (w.heap.size + 1 + 1, Zr), (w.heap.size + 1, (Ar y)), (w.heap.size, (Ar x))]) := ⟨F.bw, (RowsAt.cons (F.row 4 rfl) (RowsAt.cons (F.row 3 rfl) (RowsAt.cons (F.row 2 rfl) (RowsAt.cons (F.row 1 rfl) (RowsAt.cons (F.row 0 rfl) RowsAt.nil)))))⟩
  clear F qT q0 q1 q2 q3 q4
  go_wp2
  rw [rounds_succ]
  go_upto_region 12 with fail
  obtain ⟨q4, q3, q2, q1, q0, qT⟩ := RR.out.r.lts
  refine wp_region_told (by kernel_rfl) (by kernel_rfl) (by kernel_rfl) [(w.heap.size, (Ar x)), (w.heap.size + 1, (Ar y)), (w.heap.size + 1 + 1, Zr), (g1_6, #[B h_0, B h_1, B h_2, B h_3]), (g1_7, #[B s_12, B s_20, B s_28, B s_36])]
    [sV (B u_39),
     sV (.int .u64 4294968273),
     sV (.tuple #[(B h_40), (B l_41)]),
     sV (.tuple #[(B h_40), (B l_41)]),
     sV (B h_40),
     sV (B l_41),
     sV (B h_40),
     sV (B l_41)]
    (by kernel_rfl) RR.out.b (RowsAt.cons (RR.out.at 4 rfl) (RowsAt.cons (RR.out.at 3 rfl) (RowsAt.cons (RR.out.at 2 rfl) (RowsAt.cons (RR.out.at 1 rfl) (RowsAt.cons (RR.out.at 0 rfl) RowsAt.nil))))) (StOk.of [] rfl StM.nil)
    (Obs.val (fun a' w' E => ob_move (.tmp 8) rfl (E.old 8 (by kernel_rfl)))
    (Obs.val (fun a' w' E => ob_move (.tmp 5) rfl (E.old 5 (by kernel_rfl)))
    (Obs.val (fun a' w' E => ob_fcall 57 _ _ rfl (am2 (E.new (v := (B u_39)) 63 0 (by kernel_rfl) rfl) (E.new (v := (.int .u64 4294968273)) 64 1 (by kernel_rfl) rfl)) (fc57 _ _) (c22.out w'))
    (Obs.val (fun a' w' E => ob_move (.tmp 65) rfl (E.new (v := (.tuple #[(B h_40), (B l_41)])) 65 2 (by kernel_rfl) rfl))
    (Obs.val (fun a' w' E => ob_extract (.tmp 62) 0 rfl (E.new (v := (.tuple #[(B h_40), (B l_41)])) 62 3 (by kernel_rfl) rfl) rfl)
    (Obs.val (fun a' w' E => ob_extract (.tmp 62) 1 rfl (E.new (v := (.tuple #[(B h_40), (B l_41)])) 62 3 (by kernel_rfl) rfl) rfl)
    (Obs.val (fun a' w' E => ob_assign (.tmp 66) rfl (E.new (v := (B h_40)) 66 4 (by kernel_rfl) rfl))
    (Obs.val (fun a' w' E => ob_assign (.tmp 67) rfl (E.new (v := (B l_41)) 67 5 (by kernel_rfl) rfl))
    Obs.nil)))))))) ?_
  intro bs w22 aZ haZ F
  have eZ : aZ = ({ tmps := #[(U x), (U y), (PT w.heap.size), (PT (w.heap.size + 1)), (PT (w.heap.size + 1 + 1)), (.int .u64 4294968273), (PT g1_6), (PT g1_7), (B u_39), (.int .i64 4), (B h_32), (B l_33), (B s_34), (B c_35), (B s_36), (B c_37), (B h_40), (B l_41), undef, undef, undef, undef, (.tuple #[(.agg #[B h_0, B h_1, B h_2, B h_3]), (.agg #[B l_4, B l_5, B l_6, B l_7])]), (U x), (U y), (.tuple #[(.agg #[B h_0, B h_1, B h_2, B h_3]), (.agg #[B l_4, B l_5, B l_6, B l_7])]), (.agg #[B h_0, B h_1, B h_2, B h_3]), (.agg #[B l_4, B l_5, B l_6, B l_7]), (.int .i64 4), (.bool false), (.int .i64 3), (.int .i64 4), (.tuple #[(B h_32), (B l_33)]), (.int .i64 3), (PO g1_6 3), (B h_3), (.int .u64 4294968273), (.tuple #[(B h_32), (B l_33)]), (B h_32), (B l_33), (.tuple #[(B s_34), (B c_35)]), (.int .i64 3), (PO g1_7 3), (B l_7), (B l_33), (.tuple #[(B s_34), (B c_35)]), (B s_34), (B c_35), (.tuple #[(B s_36), (B c_37)]), (B s_34), (B u_31), (.tuple #[(B s_36), (B c_37)]), (B s_36), (B c_37), (.int .i64 3), (B s_36), (PO g1_7 3), (B h_32), (B c_35), (B u_38), (B c_37), (B u_39), (.tuple #[(B h_40), (B l_41)]), (B u_39), (.int .u64 4294968273), (.tuple #[(B h_40), (B l_41)]), (B h_40), (B l_41), undef, undef, undef, undef, undef, undef, undef, undef, undef, undef, undef, undef, undef, undef, undef, undef, undef, undef, undef, undef, undef, undef, undef, undef, undef], defers := [] } : Act) := haZ.trans (by kernel_rfl)
  subst eZ
  clear haZ
  replace RR : Hid (RB w w22 [(g1_7, #[B s_12, B s_20, B s_28, B s_36]), (g1_6, #[B h_0, B h_1, B h_2, B h_3]), (w.heap.size + 1 + 1, Zr), (w.heap.size + 1, (Ar y)), (w.heap.size, (Ar x))]) := ⟨F.bw, (RowsAt.cons (F.row 4 rfl) (RowsAt.cons (F.row 3 rfl) (RowsAt.cons (F.row 2 rfl) (RowsAt.cons (F.row 1 rfl) (RowsAt.cons (F.row 0 rfl) RowsAt.nil)))))⟩
  clear F qT q0 q1 q2 q3 q4
  go_upto_region 13 with fail
  obtain ⟨q4, q3, q2, q1, q0, qT⟩ := RR.out.r.lts
  refine wp_region_told (by kernel_rfl) (by kernel_rfl) (by kernel_rfl) [(w.heap.size, (Ar x)), (w.heap.size + 1, (Ar y)), (w.heap.size + 1 + 1, Zr), (g1_6, #[B h_0, B h_1, B h_2, B h_3]), (g1_7, #[B s_12, B s_20, B s_28, B s_36])]
    [sV (.agg #[B s_12, B s_20, B s_28, B s_36]),
     sV (B l_41),
     sV (B h_40),
     sV (.agg #[B l_41, B h_40, .int .u64 0, .int .u64 0]),
     sV (.tuple #[(U s_42), (.bool q_43)]),
     sV (.tuple #[(U s_42), (.bool q_43)]),
     sV (U s_42),
     sV (.bool q_43),
     sA (fun g => .pointer (some ⟨g, 0, none⟩)) 9 Zr (Ar s_42),
     sS 8,
     sV (.bool q_43)]
    (by kernel_rfl) RR.out.b (RowsAt.cons (RR.out.at 4 rfl) (RowsAt.cons (RR.out.at 3 rfl) (RowsAt.cons (RR.out.at 2 rfl) (RowsAt.cons (RR.out.at 1 rfl) (RowsAt.cons (RR.out.at 0 rfl) RowsAt.nil))))) (StOk.of [] rfl StM.nil)
    (Obs.val (fun a' w' E => ob_loada 24 (.tmp 7) rfl (E.old 7 (by kernel_rfl)) (E.row (g := g1_7) (c := #[B s_12, B s_20, B s_28, B s_36]) 4 rfl) Tryd.underlying24 rfl (by kernel_rfl) rfl)
    (Obs.val (fun a' w' E => ob_move (.tmp 17) rfl (E.old 17 (by kernel_rfl)))
    (Obs.val (fun a' w' E => ob_move (.tmp 16) rfl (E.old 16 (by kernel_rfl)))
    (Obs.val (fun a' w' E => ob_build 24 _ rfl (pm4 (E.new (v := (B l_41)) 70 1 (by kernel_rfl) rfl) (E.new (v := (B h_40)) 71 2 (by kernel_rfl) rfl) (evc a' (.int .u64 0)) (evc a' (.int .u64 0))) (bd24_0i_1i_2i_3i _ _ _ _ w'))
    (Obs.val (fun a' w' E => ob_fcall 22 _ _ rfl (am2 (E.new (v := (.agg #[B s_12, B s_20, B s_28, B s_36])) 69 0 (by kernel_rfl) rfl) (E.new (v := (.agg #[B l_41, B h_40, .int .u64 0, .int .u64 0])) 72 3 (by kernel_rfl) rfl)) (fc22 _ _) (c23.out w'))
    (Obs.val (fun a' w' E => ob_move (.tmp 73) rfl (E.new (v := (.tuple #[(U s_42), (.bool q_43)])) 73 4 (by kernel_rfl) rfl))
    (Obs.val (fun a' w' E => ob_extract (.tmp 68) 0 rfl (E.new (v := (.tuple #[(U s_42), (.bool q_43)])) 68 5 (by kernel_rfl) rfl) rfl)
    (Obs.val (fun a' w' E => ob_extract (.tmp 68) 1 rfl (E.new (v := (.tuple #[(U s_42), (.bool q_43)])) 68 5 (by kernel_rfl) rfl) rfl)
    (Obs.alloc (fun a' w' E => ob_alloc (t := 24) (by simp [opAt, execOp, go_sem]))
    (Obs.sta rfl (fun a' w' g E ha hr => ob_storea 24 (.tmp 18) (.tmp 74) rfl (ha 18 (by kernel_rfl)) (E.new (v := (U s_42)) 74 6 (by kernel_rfl) rfl) rfl hr (by kernel_rfl) (Nat.le_of_ble_eq_true rfl) (by kernel_rfl) rfl)
    (Obs.val (fun a' w' E => ob_assign (.tmp 75) rfl (E.new (v := (.bool q_43)) 75 7 (by kernel_rfl) rfl))
    Obs.nil))))))))))) ?_
  intro bs w23 aZ haZ F
  have eZ : aZ = ({ tmps := #[(U x), (U y), (PT w.heap.size), (PT (w.heap.size + 1)), (PT (w.heap.size + 1 + 1)), (.int .u64 4294968273), (PT g1_6), (PT g1_7), (B u_39), (.int .i64 4), (B h_32), (B l_33), (B s_34), (B c_35), (B s_36), (B c_37), (B h_40), (B l_41), (PT ((bs 8))), (.bool q_43), undef, undef, (.tuple #[(.agg #[B h_0, B h_1, B h_2, B h_3]), (.agg #[B l_4, B l_5, B l_6, B l_7])]), (U x), (U y), (.tuple #[(.agg #[B h_0, B h_1, B h_2, B h_3]), (.agg #[B l_4, B l_5, B l_6, B l_7])]), (.agg #[B h_0, B h_1, B h_2, B h_3]), (.agg #[B l_4, B l_5, B l_6, B l_7]), (.int .i64 4), (.bool false), (.int .i64 3), (.int .i64 4), (.tuple #[(B h_32), (B l_33)]), (.int .i64 3), (PO g1_6 3), (B h_3), (.int .u64 4294968273), (.tuple #[(B h_32), (B l_33)]), (B h_32), (B l_33), (.tuple #[(B s_34), (B c_35)]), (.int .i64 3), (PO g1_7 3), (B l_7), (B l_33), (.tuple #[(B s_34), (B c_35)]), (B s_34), (B c_35), (.tuple #[(B s_36), (B c_37)]), (B s_34), (B u_31), (.tuple #[(B s_36), (B c_37)]), (B s_36), (B c_37), (.int .i64 3), (B s_36), (PO g1_7 3), (B h_32), (B c_35), (B u_38), (B c_37), (B u_39), (.tuple #[(B h_40), (B l_41)]), (B u_39), (.int .u64 4294968273), (.tuple #[(B h_40), (B l_41)]), (B h_40), (B l_41), (.tuple #[(U s_42), (.bool q_43)]), (.agg #[B s_12, B s_20, B s_28, B s_36]), (B l_41), (B h_40), (.agg #[B l_41, B h_40, .int .u64 0, .int .u64 0]), (.tuple #[(U s_42), (.bool q_43)]), (U s_42), (.bool q_43), undef, undef, undef, undef, undef, undef, undef, undef, undef, undef, undef, undef, undef, undef, undef, undef, undef], defers := [] } : Act) := haZ.trans (by kernel_rfl)
  subst eZ
  clear haZ
  obtain ⟨h8, X8⟩ := F.al 8 rfl rfl
  replace RR : Hid (RB w w23 [((bs 8), (Ar s_42)), (g1_7, #[B s_12, B s_20, B s_28, B s_36]), (g1_6, #[B h_0, B h_1, B h_2, B h_3]), (w.heap.size + 1 + 1, Zr), (w.heap.size + 1, (Ar y)), (w.heap.size, (Ar x))]) := ⟨F.bw, (RowsAt.cons X8 (RowsAt.cons (F.row 4 rfl) (RowsAt.cons (F.row 3 rfl) (RowsAt.cons (F.row 2 rfl) (RowsAt.cons (F.row 1 rfl) (RowsAt.cons (F.row 0 rfl) RowsAt.nil))))))⟩
  generalize bs 8 = g23_8 at *
  have k23_8_0 := Nat.lt_of_lt_of_le q0 h8
  have k23_8_1 := Nat.lt_of_lt_of_le q1 h8
  have k23_8_2 := Nat.lt_of_lt_of_le q2 h8
  have k23_8_3 := Nat.lt_of_lt_of_le q3 h8
  have k23_8_4 := Nat.lt_of_lt_of_le q4 h8
  clear F qT q0 q1 q2 q3 q4 h8 X8
  go_upto_region 14 with fail
  obtain ⟨q5, q4, q3, q2, q1, q0, qT⟩ := RR.out.r.lts
  refine wp_region_told (by kernel_rfl) (by kernel_rfl) (by kernel_rfl) [(w.heap.size, (Ar x)), (w.heap.size + 1, (Ar y)), (w.heap.size + 1 + 1, Zr), (g1_6, #[B h_0, B h_1, B h_2, B h_3]), (g1_7, #[B s_12, B s_20, B s_28, B s_36]), (g23_8, (Ar s_42))]
    [sV (.bool q_43)]
    (by kernel_rfl) RR.out.b (RowsAt.cons (RR.out.at 5 rfl) (RowsAt.cons (RR.out.at 4 rfl) (RowsAt.cons (RR.out.at 3 rfl) (RowsAt.cons (RR.out.at 2 rfl) (RowsAt.cons (RR.out.at 1 rfl) (RowsAt.cons (RR.out.at 0 rfl) RowsAt.nil)))))) (StOk.of [] rfl StM.nil)
    (Obs.val (fun a' w' E => ob_move (.tmp 19) rfl (E.old 19 (by kernel_rfl)))
    Obs.nil) ?_
  intro bs w24 aZ haZ F
  have eZ : aZ = ({ tmps := #[(U x), (U y), (PT w.heap.size), (PT (w.heap.size + 1)), (PT (w.heap.size + 1 + 1)), (.int .u64 4294968273), (PT g1_6), (PT g1_7), (B u_39), (.int .i64 4), (B h_32), (B l_33), (B s_34), (B c_35), (B s_36), (B c_37), (B h_40), (B l_41), (PT g23_8), (.bool q_43), undef, undef, (.tuple #[(.agg #[B h_0, B h_1, B h_2, B h_3]), (.agg #[B l_4, B l_5, B l_6, B l_7])]), (U x), (U y), (.tuple #[(.agg #[B h_0, B h_1, B h_2, B h_3]), (.agg #[B l_4, B l_5, B l_6, B l_7])]), (.agg #[B h_0, B h_1, B h_2, B h_3]), (.agg #[B l_4, B l_5, B l_6, B l_7]), (.int .i64 4), (.bool false), (.int .i64 3), (.int .i64 4), (.tuple #[(B h_32), (B l_33)]), (.int .i64 3), (PO g1_6 3), (B h_3), (.int .u64 4294968273), (.tuple #[(B h_32), (B l_33)]), (B h_32), (B l_33), (.tuple #[(B s_34), (B c_35)]), (.int .i64 3), (PO g1_7 3), (B l_7), (B l_33), (.tuple #[(B s_34), (B c_35)]), (B s_34), (B c_35), (.tuple #[(B s_36), (B c_37)]), (B s_34), (B u_31), (.tuple #[(B s_36), (B c_37)]), (B s_36), (B c_37), (.int .i64 3), (B s_36), (PO g1_7 3), (B h_32), (B c_35), (B u_38), (B c_37), (B u_39), (.tuple #[(B h_40), (B l_41)]), (B u_39), (.int .u64 4294968273), (.tuple #[(B h_40), (B l_41)]), (B h_40), (B l_41), (.tuple #[(U s_42), (.bool q_43)]), (.agg #[B s_12, B s_20, B s_28, B s_36]), (B l_41), (B h_40), (.agg #[B l_41, B h_40, .int .u64 0, .int .u64 0]), (.tuple #[(U s_42), (.bool q_43)]), (U s_42), (.bool q_43), (.bool q_43), undef, undef, undef, undef, undef, undef, undef, undef, undef, undef, undef, undef, undef, undef, undef, undef], defers := [] } : Act) := haZ.trans (by kernel_rfl)
  subst eZ
  clear haZ
  replace RR : Hid (RB w w24 [(g23_8, (Ar s_42)), (g1_7, #[B s_12, B s_20, B s_28, B s_36]), (g1_6, #[B h_0, B h_1, B h_2, B h_3]), (w.heap.size + 1 + 1, Zr), (w.heap.size + 1, (Ar y)), (w.heap.size, (Ar x))]) := ⟨F.bw, (RowsAt.cons (F.row 5 rfl) (RowsAt.cons (F.row 4 rfl) (RowsAt.cons (F.row 3 rfl) (RowsAt.cons (F.row 2 rfl) (RowsAt.cons (F.row 1 rfl) (RowsAt.cons (F.row 0 rfl) RowsAt.nil))))))⟩
  clear F qT q0 q1 q2 q3 q4 q5
  cases q_43 with
  | true =>
    go_upto_region 15 with fail
    obtain ⟨q5, q4, q3, q2, q1, q0, qT⟩ := RR.out.r.lts
    refine wp_region_told (by kernel_rfl) (by kernel_rfl) (by kernel_rfl) [(w.heap.size, (Ar x)), (w.heap.size + 1, (Ar y)), (w.heap.size + 1 + 1, Zr), (g1_6, #[B h_0, B h_1, B h_2, B h_3]), (g1_7, #[B s_12, B s_20, B s_28, B s_36])]
      [sV (U s_42),
       sV (.int .u64 4294968273),
       sV (U 4294968273),
       sV (.tuple #[(U s_44), (.bool q_45)]),
       sV (.tuple #[(U s_44), (.bool q_45)]),
       sV (U s_44),
       sV (.bool q_45),
       sK (g23_8) (Ar s_42) (Ar s_44)]
      (by kernel_rfl) RR.out.b (RowsAt.cons (RR.out.at 5 rfl) (RowsAt.cons (RR.out.at 4 rfl) (RowsAt.cons (RR.out.at 3 rfl) (RowsAt.cons (RR.out.at 2 rfl) (RowsAt.cons (RR.out.at 1 rfl) RowsAt.nil))))) (StOk.of [(g23_8, (Ar s_42))] rfl (StM.cons (RR.out.at 0 rfl) (by omega) (Apart.cons (by omega) (Apart.cons (by omega) (Apart.cons (by omega) (Apart.cons (by omega) (Apart.cons (by omega) Apart.nil))))) Apart.nil StM.nil))
      (Obs.val (fun a' w' E => ob_loada 24 (.tmp 18) rfl (E.old 18 (by kernel_rfl)) (E.skb (g := g23_8) (i := (Ar s_42)) (e := (Ar s_44)) 7 rfl (by kernel_rfl)) Tryd.underlying24 rfl (by kernel_rfl) rfl)
      (Obs.val (fun a' w' E => ob_move (.tmp 5) rfl (E.old 5 (by kernel_rfl)))
      (Obs.val (fun a' w' E => ob_build 24 _ rfl (pm4 (E.new (v := (.int .u64 4294968273)) 79 1 (by kernel_rfl) rfl) (evc a' (.int .u64 0)) (evc a' (.int .u64 0)) (evc a' (.int .u64 0))) (bdk4294968273 w'))
      (Obs.val (fun a' w' E => ob_fcall 22 _ _ rfl (am2 (E.new (v := (U s_42)) 78 0 (by kernel_rfl) rfl) (E.new (v := (U 4294968273)) 80 2 (by kernel_rfl) rfl)) (fc22 _ _) (((c24 rfl : Does 22 #[(U s_42), (U 4294968273)] (.tuple #[(U s_44), (.bool q_45)]))).out w'))
      (Obs.val (fun a' w' E => ob_move (.tmp 81) rfl (E.new (v := (.tuple #[(U s_44), (.bool q_45)])) 81 3 (by kernel_rfl) rfl))
      (Obs.val (fun a' w' E => ob_extract (.tmp 77) 0 rfl (E.new (v := (.tuple #[(U s_44), (.bool q_45)])) 77 4 (by kernel_rfl) rfl) rfl)
      (Obs.val (fun a' w' E => ob_extract (.tmp 77) 1 rfl (E.new (v := (.tuple #[(U s_44), (.bool q_45)])) 77 4 (by kernel_rfl) rfl) rfl)
      (Obs.stk (fun a' w' E hr => ob_storea 24 (.tmp 18) (.tmp 82) rfl (E.old 18 (by kernel_rfl)) (E.new (v := (U s_44)) 82 5 (by kernel_rfl) rfl) rfl hr (by kernel_rfl) (Nat.le_of_ble_eq_true rfl) (by kernel_rfl) rfl)
      Obs.nil)))))))) ?_
    intro bs w25 aZ haZ F
    have eZ : aZ = ({ tmps := #[(U x), (U y), (PT w.heap.size), (PT (w.heap.size + 1)), (PT (w.heap.size + 1 + 1)), (.int .u64 4294968273), (PT g1_6), (PT g1_7), (B u_39), (.int .i64 4), (B h_32), (B l_33), (B s_34), (B c_35), (B s_36), (B c_37), (B h_40), (B l_41), (PT g23_8), (.bool true), undef, undef, (.tuple #[(.agg #[B h_0, B h_1, B h_2, B h_3]), (.agg #[B l_4, B l_5, B l_6, B l_7])]), (U x), (U y), (.tuple #[(.agg #[B h_0, B h_1, B h_2, B h_3]), (.agg #[B l_4, B l_5, B l_6, B l_7])]), (.agg #[B h_0, B h_1, B h_2, B h_3]), (.agg #[B l_4, B l_5, B l_6, B l_7]), (.int .i64 4), (.bool false), (.int .i64 3), (.int .i64 4), (.tuple #[(B h_32), (B l_33)]), (.int .i64 3), (PO g1_6 3), (B h_3), (.int .u64 4294968273), (.tuple #[(B h_32), (B l_33)]), (B h_32), (B l_33), (.tuple #[(B s_34), (B c_35)]), (.int .i64 3), (PO g1_7 3), (B l_7), (B l_33), (.tuple #[(B s_34), (B c_35)]), (B s_34), (B c_35), (.tuple #[(B s_36), (B c_37)]), (B s_34), (B u_31), (.tuple #[(B s_36), (B c_37)]), (B s_36), (B c_37), (.int .i64 3), (B s_36), (PO g1_7 3), (B h_32), (B c_35), (B u_38), (B c_37), (B u_39), (.tuple #[(B h_40), (B l_41)]), (B u_39), (.int .u64 4294968273), (.tuple #[(B h_40), (B l_41)]), (B h_40), (B l_41), (.tuple #[(U s_42), (.bool true)]), (.agg #[B s_12, B s_20, B s_28, B s_36]), (B l_41), (B h_40), (.agg #[B l_41, B h_40, .int .u64 0, .int .u64 0]), (.tuple #[(U s_42), (.bool true)]), (U s_42), (.bool true), (.bool true), (.tuple #[(U s_44), (.bool q_45)]), (U s_42), (.int .u64 4294968273), (U 4294968273), (.tuple #[(U s_44), (.bool q_45)]), (U s_44), (.bool q_45), undef, undef, undef, undef, undef, undef, undef, undef, undef], defers := [] } : Act) := haZ.trans (by kernel_rfl)
    subst eZ
    clear haZ
    replace RR : Hid (RB w w25 [(g23_8, (Ar s_44)), (g1_7, #[B s_12, B s_20, B s_28, B s_36]), (g1_6, #[B h_0, B h_1, B h_2, B h_3]), (w.heap.size + 1 + 1, Zr), (w.heap.size + 1, (Ar y)), (w.heap.size, (Ar x))]) := ⟨F.bw, (RowsAt.cons (F.sk 7 rfl) (RowsAt.cons (F.row 4 rfl) (RowsAt.cons (F.row 3 rfl) (RowsAt.cons (F.row 2 rfl) (RowsAt.cons (F.row 1 rfl) (RowsAt.cons (F.row 0 rfl) RowsAt.nil))))))⟩
    clear F qT q0 q1 q2 q3 q4 q5
    go_upto_region 16 with fail
    obtain ⟨q5, q4, q3, q2, q1, q0, qT⟩ := RR.out.r.lts
    refine wp_region_told (by kernel_rfl) (by kernel_rfl) (by kernel_rfl) [(w.heap.size, (Ar x)), (w.heap.size + 1, (Ar y)), (w.heap.size + 1 + 1, Zr), (g1_6, #[B h_0, B h_1, B h_2, B h_3]), (g1_7, #[B s_12, B s_20, B s_28, B s_36]), (g23_8, (Ar s_44))]
      [sV (U s_44),
       sV (U p_46),
       sV (.tuple #[(U s_47), (.bool q_48)]),
       sV (.tuple #[(U s_47), (.bool q_48)]),
       sV (U s_47),
       sV (.bool q_48),
       sA (fun g => .pointer (some ⟨g, 0, none⟩)) 7 Zr (Ar s_47),
       sS 6,
       sV (.bool q_48)]
      (by kernel_rfl) RR.out.b (RowsAt.cons (RR.out.at 5 rfl) (RowsAt.cons (RR.out.at 4 rfl) (RowsAt.cons (RR.out.at 3 rfl) (RowsAt.cons (RR.out.at 2 rfl) (RowsAt.cons (RR.out.at 1 rfl) (RowsAt.cons (RR.out.at 0 rfl) RowsAt.nil)))))) (StOk.of [] rfl StM.nil)
      (Obs.val (fun a' w' E => ob_loada 24 (.tmp 18) rfl (E.old 18 (by kernel_rfl)) (E.row (g := g23_8) (c := (Ar s_44)) 5 rfl) Tryd.underlying24 rfl (by kernel_rfl) rfl)
      (Obs.val (fun a' w' E => ob_fcall 35 _ _ rfl (am0) (fc35 _ _) (((c25 rfl : Does 35 #[] (U p_46))).out w'))
      (Obs.val (fun a' w' E => ob_fcall 19 _ _ rfl (am2 (E.new (v := (U s_44)) 85 0 (by kernel_rfl) rfl) (E.new (v := (U p_46)) 86 1 (by kernel_rfl) rfl)) (fc19 _ _) (((c26 rfl : Does 19 #[(U s_44), (U p_46)] (.tuple #[(U s_47), (.bool q_48)]))).out w'))
      (Obs.val (fun a' w' E => ob_move (.tmp 87) rfl (E.new (v := (.tuple #[(U s_47), (.bool q_48)])) 87 2 (by kernel_rfl) rfl))
      (Obs.val (fun a' w' E => ob_extract (.tmp 84) 0 rfl (E.new (v := (.tuple #[(U s_47), (.bool q_48)])) 84 3 (by kernel_rfl) rfl) rfl)
      (Obs.val (fun a' w' E => ob_extract (.tmp 84) 1 rfl (E.new (v := (.tuple #[(U s_47), (.bool q_48)])) 84 3 (by kernel_rfl) rfl) rfl)
      (Obs.alloc (fun a' w' E => ob_alloc (t := 24) (by simp [opAt, execOp, go_sem]))
      (Obs.sta rfl (fun a' w' g E ha hr => ob_storea 24 (.tmp 20) (.tmp 88) rfl (ha 20 (by kernel_rfl)) (E.new (v := (U s_47)) 88 4 (by kernel_rfl) rfl) rfl hr (by kernel_rfl) (Nat.le_of_ble_eq_true rfl) (by kernel_rfl) rfl)
      (Obs.val (fun a' w' E => ob_assign (.tmp 89) rfl (E.new (v := (.bool q_48)) 89 5 (by kernel_rfl) rfl))
      Obs.nil))))))))) ?_
    intro bs w26 aZ haZ F
    have eZ : aZ = ({ tmps := #[(U x), (U y), (PT w.heap.size), (PT (w.heap.size + 1)), (PT (w.heap.size + 1 + 1)), (.int .u64 4294968273), (PT g1_6), (PT g1_7), (B u_39), (.int .i64 4), (B h_32), (B l_33), (B s_34), (B c_35), (B s_36), (B c_37), (B h_40), (B l_41), (PT g23_8), (.bool true), (PT ((bs 6))), (.bool q_48), (.tuple #[(.agg #[B h_0, B h_1, B h_2, B h_3]), (.agg #[B l_4, B l_5, B l_6, B l_7])]), (U x), (U y), (.tuple #[(.agg #[B h_0, B h_1, B h_2, B h_3]), (.agg #[B l_4, B l_5, B l_6, B l_7])]), (.agg #[B h_0, B h_1, B h_2, B h_3]), (.agg #[B l_4, B l_5, B l_6, B l_7]), (.int .i64 4), (.bool false), (.int .i64 3), (.int .i64 4), (.tuple #[(B h_32), (B l_33)]), (.int .i64 3), (PO g1_6 3), (B h_3), (.int .u64 4294968273), (.tuple #[(B h_32), (B l_33)]), (B h_32), (B l_33), (.tuple #[(B s_34), (B c_35)]), (.int .i64 3), (PO g1_7 3), (B l_7), (B l_33), (.tuple #[(B s_34), (B c_35)]), (B s_34), (B c_35), (.tuple #[(B s_36), (B c_37)]), (B s_34), (B u_31), (.tuple #[(B s_36), (B c_37)]), (B s_36), (B c_37), (.int .i64 3), (B s_36), (PO g1_7 3), (B h_32), (B c_35), (B u_38), (B c_37), (B u_39), (.tuple #[(B h_40), (B l_41)]), (B u_39), (.int .u64 4294968273), (.tuple #[(B h_40), (B l_41)]), (B h_40), (B l_41), (.tuple #[(U s_42), (.bool true)]), (.agg #[B s_12, B s_20, B s_28, B s_36]), (B l_41), (B h_40), (.agg #[B l_41, B h_40, .int .u64 0, .int .u64 0]), (.tuple #[(U s_42), (.bool true)]), (U s_42), (.bool true), (.bool true), (.tuple #[(U s_44), (.bool q_45)]), (U s_42), (.int .u64 4294968273), (U 4294968273), (.tuple #[(U s_44), (.bool q_45)]), (U s_44), (.bool q_45), (.tuple #[(U s_47), (.bool q_48)]), (U s_44), (U p_46), (.tuple #[(U s_47), (.bool q_48)]), (U s_47), (.bool q_48), undef, undef, undef], defers := [] } : Act) := haZ.trans (by kernel_rfl)
    subst eZ
    clear haZ
    obtain ⟨h6, X6⟩ := F.al 6 rfl rfl
    replace RR : Hid (RB w w26 [((bs 6), (Ar s_47)), (g23_8, (Ar s_44)), (g1_7, #[B s_12, B s_20, B s_28, B s_36]), (g1_6, #[B h_0, B h_1, B h_2, B h_3]), (w.heap.size + 1 + 1, Zr), (w.heap.size + 1, (Ar y)), (w.heap.size, (Ar x))]) := ⟨F.bw, (RowsAt.cons X6 (RowsAt.cons (F.row 5 rfl) (RowsAt.cons (F.row 4 rfl) (RowsAt.cons (F.row 3 rfl) (RowsAt.cons (F.row 2 rfl) (RowsAt.cons (F.row 1 rfl) (RowsAt.cons (F.row 0 rfl) RowsAt.nil)))))))⟩
    generalize bs 6 = g26_6 at *
    have k26_6_0 := Nat.lt_of_lt_of_le q0 h6
    have k26_6_1 := Nat.lt_of_lt_of_le q1 h6
    have k26_6_2 := Nat.lt_of_lt_of_le q2 h6
    have k26_6_3 := Nat.lt_of_lt_of_le q3 h6
    have k26_6_4 := Nat.lt_of_lt_of_le q4 h6
    have k26_6_5 := Nat.lt_of_lt_of_le q5 h6
    clear F qT q0 q1 q2 q3 q4 q5 h6 X6
    go_upto_region 17 with fail
    obtain ⟨q6, q5, q4, q3, q2, q1, q0, qT⟩ := RR.out.r.lts
    refine wp_region_told (by kernel_rfl) (by kernel_rfl) (by kernel_rfl) [(w.heap.size, (Ar x)), (w.heap.size + 1, (Ar y)), (w.heap.size + 1 + 1, Zr), (g1_6, #[B h_0, B h_1, B h_2, B h_3]), (g1_7, #[B s_12, B s_20, B s_28, B s_36]), (g23_8, (Ar s_44)), (g26_6, (Ar s_47))]
      [sV (.bool q_48)]
      (by kernel_rfl) RR.out.b (RowsAt.cons (RR.out.at 6 rfl) (RowsAt.cons (RR.out.at 5 rfl) (RowsAt.cons (RR.out.at 4 rfl) (RowsAt.cons (RR.out.at 3 rfl) (RowsAt.cons (RR.out.at 2 rfl) (RowsAt.cons (RR.out.at 1 rfl) (RowsAt.cons (RR.out.at 0 rfl) RowsAt.nil))))))) (StOk.of [] rfl StM.nil)
      (Obs.val (fun a' w' E => ob_move (.tmp 21) rfl (E.old 21 (by kernel_rfl)))
      Obs.nil) ?_
    intro bs w27 aZ haZ F
    have eZ : aZ = ({ tmps := #[(U x), (U y), (PT w.heap.size), (PT (w.heap.size + 1)), (PT (w.heap.size + 1 + 1)), (.int .u64 4294968273), (PT g1_6), (PT g1_7), (B u_39), (.int .i64 4), (B h_32), (B l_33), (B s_34), (B c_35), (B s_36), (B c_37), (B h_40), (B l_41), (PT g23_8), (.bool true), (PT g26_6), (.bool q_48), (.tuple #[(.agg #[B h_0, B h_1, B h_2, B h_3]), (.agg #[B l_4, B l_5, B l_6, B l_7])]), (U x), (U y), (.tuple #[(.agg #[B h_0, B h_1, B h_2, B h_3]), (.agg #[B l_4, B l_5, B l_6, B l_7])]), (.agg #[B h_0, B h_1, B h_2, B h_3]), (.agg #[B l_4, B l_5, B l_6, B l_7]), (.int .i64 4), (.bool false), (.int .i64 3), (.int .i64 4), (.tuple #[(B h_32), (B l_33)]), (.int .i64 3), (PO g1_6 3), (B h_3), (.int .u64 4294968273), (.tuple #[(B h_32), (B l_33)]), (B h_32), (B l_33), (.tuple #[(B s_34), (B c_35)]), (.int .i64 3), (PO g1_7 3), (B l_7), (B l_33), (.tuple #[(B s_34), (B c_35)]), (B s_34), (B c_35), (.tuple #[(B s_36), (B c_37)]), (B s_34), (B u_31), (.tuple #[(B s_36), (B c_37)]), (B s_36), (B c_37), (.int .i64 3), (B s_36), (PO g1_7 3), (B h_32), (B c_35), (B u_38), (B c_37), (B u_39), (.tuple #[(B h_40), (B l_41)]), (B u_39), (.int .u64 4294968273), (.tuple #[(B h_40), (B l_41)]), (B h_40), (B l_41), (.tuple #[(U s_42), (.bool true)]), (.agg #[B s_12, B s_20, B s_28, B s_36]), (B l_41), (B h_40), (.agg #[B l_41, B h_40, .int .u64 0, .int .u64 0]), (.tuple #[(U s_42), (.bool true)]), (U s_42), (.bool true), (.bool true), (.tuple #[(U s_44), (.bool q_45)]), (U s_42), (.int .u64 4294968273), (U 4294968273), (.tuple #[(U s_44), (.bool q_45)]), (U s_44), (.bool q_45), (.tuple #[(U s_47), (.bool q_48)]), (U s_44), (U p_46), (.tuple #[(U s_47), (.bool q_48)]), (U s_47), (.bool q_48), (.bool q_48), undef, undef], defers := [] } : Act) := haZ.trans (by kernel_rfl)
    subst eZ
    clear haZ
    replace RR : Hid (RB w w27 [(g26_6, (Ar s_47)), (g23_8, (Ar s_44)), (g1_7, #[B s_12, B s_20, B s_28, B s_36]), (g1_6, #[B h_0, B h_1, B h_2, B h_3]), (w.heap.size + 1 + 1, Zr), (w.heap.size + 1, (Ar y)), (w.heap.size, (Ar x))]) := ⟨F.bw, (RowsAt.cons (F.row 6 rfl) (RowsAt.cons (F.row 5 rfl) (RowsAt.cons (F.row 4 rfl) (RowsAt.cons (F.row 3 rfl) (RowsAt.cons (F.row 2 rfl) (RowsAt.cons (F.row 1 rfl) (RowsAt.cons (F.row 0 rfl) RowsAt.nil)))))))⟩
    clear F qT q0 q1 q2 q3 q4 q5 q6
    cases q_48 with
    | true =>
      go_upto_region 18 with fail
      obtain ⟨q6, q5, q4, q3, q2, q1, q0, qT⟩ := RR.out.r.lts
      refine wp_region_told (by kernel_rfl) (by kernel_rfl) (by kernel_rfl) [(w.heap.size, (Ar x)), (w.heap.size + 1, (Ar y)), (g1_6, #[B h_0, B h_1, B h_2, B h_3]), (g1_7, #[B s_12, B s_20, B s_28, B s_36]), (g23_8, (Ar s_44)), (g26_6, (Ar s_47))]
        [sV (U s_44),
         sK (w.heap.size + 1 + 1) Zr (Ar s_44)]
        (by kernel_rfl) RR.out.b (RowsAt.cons (RR.out.at 6 rfl) (RowsAt.cons (RR.out.at 5 rfl) (RowsAt.cons (RR.out.at 3 rfl) (RowsAt.cons (RR.out.at 2 rfl) (RowsAt.cons (RR.out.at 1 rfl) (RowsAt.cons (RR.out.at 0 rfl) RowsAt.nil)))))) (StOk.of [(w.heap.size + 1 + 1, Zr)] rfl (StM.cons (RR.out.at 4 rfl) (by omega) (Apart.cons (by omega) (Apart.cons (by omega) (Apart.cons (by omega) (Apart.cons (by omega) (Apart.cons (by omega) (Apart.cons (by omega) Apart.nil)))))) Apart.nil StM.nil))
        (Obs.val (fun a' w' E => ob_loada 24 (.tmp 18) rfl (E.old 18 (by kernel_rfl)) (E.row (g := g23_8) (c := (Ar s_44)) 4 rfl) Tryd.underlying24 rfl (by kernel_rfl) rfl)
        (Obs.stk (fun a' w' E hr => ob_storea 24 (.tmp 4) (.tmp 91) rfl (E.old 4 (by kernel_rfl)) (E.new (v := (U s_44)) 91 0 (by kernel_rfl) rfl) rfl hr (by kernel_rfl) (Nat.le_of_ble_eq_true rfl) (by kernel_rfl) rfl)
        Obs.nil)) ?_
      intro bs w28 aZ haZ F
      have eZ : aZ = ({ tmps := #[(U x), (U y), (PT w.heap.size), (PT (w.heap.size + 1)), (PT (w.heap.size + 1 + 1)), (.int .u64 4294968273), (PT g1_6), (PT g1_7), (B u_39), (.int .i64 4), (B h_32), (B l_33), (B s_34), (B c_35), (B s_36), (B c_37), (B h_40), (B l_41), (PT g23_8), (.bool true), (PT g26_6), (.bool true), (.tuple #[(.agg #[B h_0, B h_1, B h_2, B h_3]), (.agg #[B l_4, B l_5, B l_6, B l_7])]), (U x), (U y), (.tuple #[(.agg #[B h_0, B h_1, B h_2, B h_3]), (.agg #[B l_4, B l_5, B l_6, B l_7])]), (.agg #[B h_0, B h_1, B h_2, B h_3]), (.agg #[B l_4, B l_5, B l_6, B l_7]), (.int .i64 4), (.bool false), (.int .i64 3), (.int .i64 4), (.tuple #[(B h_32), (B l_33)]), (.int .i64 3), (PO g1_6 3), (B h_3), (.int .u64 4294968273), (.tuple #[(B h_32), (B l_33)]), (B h_32), (B l_33), (.tuple #[(B s_34), (B c_35)]), (.int .i64 3), (PO g1_7 3), (B l_7), (B l_33), (.tuple #[(B s_34), (B c_35)]), (B s_34), (B c_35), (.tuple #[(B s_36), (B c_37)]), (B s_34), (B u_31), (.tuple #[(B s_36), (B c_37)]), (B s_36), (B c_37), (.int .i64 3), (B s_36), (PO g1_7 3), (B h_32), (B c_35), (B u_38), (B c_37), (B u_39), (.tuple #[(B h_40), (B l_41)]), (B u_39), (.int .u64 4294968273), (.tuple #[(B h_40), (B l_41)]), (B h_40), (B l_41), (.tuple #[(U s_42), (.bool true)]), (.agg #[B s_12, B s_20, B s_28, B s_36]), (B l_41), (B h_40), (.agg #[B l_41, B h_40, .int .u64 0, .int .u64 0]), (.tuple #[(U s_42), (.bool true)]), (U s_42), (.bool true), (.bool true), (.tuple #[(U s_44), (.bool q_45)]), (U s_42), (.int .u64 4294968273), (U 4294968273), (.tuple #[(U s_44), (.bool q_45)]), (U s_44), (.bool q_45), (.tuple #[(U s_47), (.bool true)]), (U s_44), (U p_46), (.tuple #[(U s_47), (.bool true)]), (U s_47), (.bool true), (.bool true), (U s_44), undef], defers := [] } : Act) := haZ.trans (by kernel_rfl)
      subst eZ
      clear haZ
      replace RR : Hid (RB w w28 [(g26_6, (Ar s_47)), (g23_8, (Ar s_44)), (g1_7, #[B s_12, B s_20, B s_28, B s_36]), (g1_6, #[B h_0, B h_1, B h_2, B h_3]), (w.heap.size + 1 + 1, (Ar s_44)), (w.heap.size + 1, (Ar y)), (w.heap.size, (Ar x))]) := ⟨F.bw, (RowsAt.cons (F.row 5 rfl) (RowsAt.cons (F.row 4 rfl) (RowsAt.cons (F.row 3 rfl) (RowsAt.cons (F.row 2 rfl) (RowsAt.cons (F.sk 1 rfl) (RowsAt.cons (F.row 1 rfl) (RowsAt.cons (F.row 0 rfl) RowsAt.nil)))))))⟩
      clear F qT q0 q1 q2 q3 q4 q5 q6
      go_wp2
      exact bodyPost_ret (v := (U s_44)) (resA (p := 4) (ty := 24) rfl (g := w.heap.size + 1 + 1) rfl (RR.out.at 4 rfl) Tryd.underlying24 rfl (by kernel_rfl)) rfl ⟨rfl, RR.out.b⟩
    | false =>
      go_upto_region 19 with fail
      obtain ⟨q6, q5, q4, q3, q2, q1, q0, qT⟩ := RR.out.r.lts
      refine wp_region_told (by kernel_rfl) (by kernel_rfl) (by kernel_rfl) [(w.heap.size, (Ar x)), (w.heap.size + 1, (Ar y)), (g1_6, #[B h_0, B h_1, B h_2, B h_3]), (g1_7, #[B s_12, B s_20, B s_28, B s_36]), (g23_8, (Ar s_44)), (g26_6, (Ar s_47))]
        [sV (U s_47),
         sK (w.heap.size + 1 + 1) Zr (Ar s_47)]
        (by kernel_rfl) RR.out.b (RowsAt.cons (RR.out.at 6 rfl) (RowsAt.cons (RR.out.at 5 rfl) (RowsAt.cons (RR.out.at 3 rfl) (RowsAt.cons (RR.out.at 2 rfl) (RowsAt.cons (RR.out.at 1 rfl) (RowsAt.cons (RR.out.at 0 rfl) RowsAt.nil)))))) (StOk.of [(w.heap.size + 1 + 1, Zr)] rfl (StM.cons (RR.out.at 4 rfl) (by omega) (Apart.cons (by omega) (Apart.cons (by omega) (Apart.cons (by omega) (Apart.cons (by omega) (Apart.cons (by omega) (Apart.cons (by omega) Apart.nil)))))) Apart.nil StM.nil))
        (Obs.val (fun a' w' E => ob_loada 24 (.tmp 20) rfl (E.old 20 (by kernel_rfl)) (E.row (g := g26_6) (c := (Ar s_47)) 5 rfl) Tryd.underlying24 rfl (by kernel_rfl) rfl)
        (Obs.stk (fun a' w' E hr => ob_storea 24 (.tmp 4) (.tmp 92) rfl (E.old 4 (by kernel_rfl)) (E.new (v := (U s_47)) 92 0 (by kernel_rfl) rfl) rfl hr (by kernel_rfl) (Nat.le_of_ble_eq_true rfl) (by kernel_rfl) rfl)
        Obs.nil)) ?_
      intro bs w28 aZ haZ F
      have eZ : aZ = ({ tmps := #[(U x), (U y), (PT w.heap.size), (PT (w.heap.size + 1)), (PT (w.heap.size + 1 + 1)), (.int .u64 4294968273), (PT g1_6), (PT g1_7), (B u_39), (.int .i64 4), (B h_32), (B l_33), (B s_34), (B c_35), (B s_36), (B c_37), (B h_40), (B l_41), (PT g23_8), (.bool true), (PT g26_6), (.bool false), (.tuple #[(.agg #[B h_0, B h_1, B h_2, B h_3]), (.agg #[B l_4, B l_5, B l_6, B l_7])]), (U x), (U y), (.tuple #[(.agg #[B h_0, B h_1, B h_2, B h_3]), (.agg #[B l_4, B l_5, B l_6, B l_7])]), (.agg #[B h_0, B h_1, B h_2, B h_3]), (.agg #[B l_4, B l_5, B l_6, B l_7]), (.int .i64 4), (.bool false), (.int .i64 3), (.int .i64 4), (.tuple #[(B h_32), (B l_33)]), (.int .i64 3), (PO g1_6 3), (B h_3), (.int .u64 4294968273), (.tuple #[(B h_32), (B l_33)]), (B h_32), (B l_33), (.tuple #[(B s_34), (B c_35)]), (.int .i64 3), (PO g1_7 3), (B l_7), (B l_33), (.tuple #[(B s_34), (B c_35)]), (B s_34), (B c_35), (.tuple #[(B s_36), (B c_37)]), (B s_34), (B u_31), (.tuple #[(B s_36), (B c_37)]), (B s_36), (B c_37), (.int .i64 3), (B s_36), (PO g1_7 3), (B h_32), (B c_35), (B u_38), (B c_37), (B u_39), (.tuple #[(B h_40), (B l_41)]), (B u_39), (.int .u64 4294968273), (.tuple #[(B h_40), (B l_41)]), (B h_40), (B l_41), (.tuple #[(U s_42), (.bool true)]), (.agg #[B s_12, B s_20, B s_28, B s_36]), (B l_41), (B h_40), (.agg #[B l_41, B h_40, .int .u64 0, .int .u64 0]), (.tuple #[(U s_42), (.bool true)]), (U s_42), (.bool true), (.bool true), (.tuple #[(U s_44), (.bool q_45)]), (U s_42), (.int .u64 4294968273), (U 4294968273), (.tuple #[(U s_44), (.bool q_45)]), (U s_44), (.bool q_45), (.tuple #[(U s_47), (.bool false)]), (U s_44), (U p_46), (.tuple #[(U s_47), (.bool false)]), (U s_47), (.bool false), (.bool false), undef, (U s_47)], defers := [] } : Act) := haZ.trans (by kernel_rfl)
      subst eZ
      clear haZ
      replace RR : Hid (RB w w28 [(g26_6, (Ar s_47)), (g23_8, (Ar s_44)), (g1_7, #[B s_12, B s_20, B s_28, B s_36]), (g1_6, #[B h_0, B h_1, B h_2, B h_3]), (w.heap.size + 1 + 1, (Ar s_47)), (w.heap.size + 1, (Ar y)), (w.heap.size, (Ar x))]) := ⟨F.bw, (RowsAt.cons (F.row 5 rfl) (RowsAt.cons (F.row 4 rfl) (RowsAt.cons (F.row 3 rfl) (RowsAt.cons (F.row 2 rfl) (RowsAt.cons (F.sk 1 rfl) (RowsAt.cons (F.row 1 rfl) (RowsAt.cons (F.row 0 rfl) RowsAt.nil)))))))⟩
      clear F qT q0 q1 q2 q3 q4 q5 q6
      go_wp2
      exact bodyPost_ret (v := (U s_47)) (resA (p := 4) (ty := 24) rfl (g := w.heap.size + 1 + 1) rfl (RR.out.at 4 rfl) Tryd.underlying24 rfl (by kernel_rfl)) rfl ⟨rfl, RR.out.b⟩
  | false =>
    go_upto_region 16 with fail
    obtain ⟨q5, q4, q3, q2, q1, q0, qT⟩ := RR.out.r.lts
    refine wp_region_told (by kernel_rfl) (by kernel_rfl) (by kernel_rfl) [(w.heap.size, (Ar x)), (w.heap.size + 1, (Ar y)), (w.heap.size + 1 + 1, Zr), (g1_6, #[B h_0, B h_1, B h_2, B h_3]), (g1_7, #[B s_12, B s_20, B s_28, B s_36]), (g23_8, (Ar s_42))]
      [sV (U s_42),
       sV (U p_49),
       sV (.tuple #[(U s_50), (.bool q_51)]),
       sV (.tuple #[(U s_50), (.bool q_51)]),
       sV (U s_50),
       sV (.bool q_51),
       sA (fun g => .pointer (some ⟨g, 0, none⟩)) 7 Zr (Ar s_50),
       sS 6,
       sV (.bool q_51)]
      (by kernel_rfl) RR.out.b (RowsAt.cons (RR.out.at 5 rfl) (RowsAt.cons (RR.out.at 4 rfl) (RowsAt.cons (RR.out.at 3 rfl) (RowsAt.cons (RR.out.at 2 rfl) (RowsAt.cons (RR.out.at 1 rfl) (RowsAt.cons (RR.out.at 0 rfl) RowsAt.nil)))))) (StOk.of [] rfl StM.nil)
      (Obs.val (fun a' w' E => ob_loada 24 (.tmp 18) rfl (E.old 18 (by kernel_rfl)) (E.row (g := g23_8) (c := (Ar s_42)) 5 rfl) Tryd.underlying24 rfl (by kernel_rfl) rfl)
      (Obs.val (fun a' w' E => ob_fcall 35 _ _ rfl (am0) (fc35 _ _) (((c27 rfl : Does 35 #[] (U p_49))).out w'))
      (Obs.val (fun a' w' E => ob_fcall 19 _ _ rfl (am2 (E.new (v := (U s_42)) 85 0 (by kernel_rfl) rfl) (E.new (v := (U p_49)) 86 1 (by kernel_rfl) rfl)) (fc19 _ _) (((c28 rfl : Does 19 #[(U s_42), (U p_49)] (.tuple #[(U s_50), (.bool q_51)]))).out w'))
      (Obs.val (fun a' w' E => ob_move (.tmp 87) rfl (E.new (v := (.tuple #[(U s_50), (.bool q_51)])) 87 2 (by kernel_rfl) rfl))
      (Obs.val (fun a' w' E => ob_extract (.tmp 84) 0 rfl (E.new (v := (.tuple #[(U s_50), (.bool q_51)])) 84 3 (by kernel_rfl) rfl) rfl)
      (Obs.val (fun a' w' E => ob_extract (.tmp 84) 1 rfl (E.new (v := (.tuple #[(U s_50), (.bool q_51)])) 84 3 (by kernel_rfl) rfl) rfl)
      (Obs.alloc (fun a' w' E => ob_alloc (t := 24) (by simp [opAt, execOp, go_sem]))
      (Obs.sta rfl (fun a' w' g E ha hr => ob_storea 24 (.tmp 20) (.tmp 88) rfl (ha 20 (by kernel_rfl)) (E.new (v := (U s_50)) 88 4 (by kernel_rfl) rfl) rfl hr (by kernel_rfl) (Nat.le_of_ble_eq_true rfl) (by kernel_rfl) rfl)
      (Obs.val (fun a' w' E => ob_assign (.tmp 89) rfl (E.new (v := (.bool q_51)) 89 5 (by kernel_rfl) rfl))
      Obs.nil))))))))) ?_
    intro bs w25 aZ haZ F
    have eZ : aZ = ({ tmps := #[(U x), (U y), (PT w.heap.size), (PT (w.heap.size + 1)), (PT (w.heap.size + 1 + 1)), (.int .u64 4294968273), (PT g1_6), (PT g1_7), (B u_39), (.int .i64 4), (B h_32), (B l_33), (B s_34), (B c_35), (B s_36), (B c_37), (B h_40), (B l_41), (PT g23_8), (.bool false), (PT ((bs 6))), (.bool q_51), (.tuple #[(.agg #[B h_0, B h_1, B h_2, B h_3]), (.agg #[B l_4, B l_5, B l_6, B l_7])]), (U x), (U y), (.tuple #[(.agg #[B h_0, B h_1, B h_2, B h_3]), (.agg #[B l_4, B l_5, B l_6, B l_7])]), (.agg #[B h_0, B h_1, B h_2, B h_3]), (.agg #[B l_4, B l_5, B l_6, B l_7]), (.int .i64 4), (.bool false), (.int .i64 3), (.int .i64 4), (.tuple #[(B h_32), (B l_33)]), (.int .i64 3), (PO g1_6 3), (B h_3), (.int .u64 4294968273), (.tuple #[(B h_32), (B l_33)]), (B h_32), (B l_33), (.tuple #[(B s_34), (B c_35)]), (.int .i64 3), (PO g1_7 3), (B l_7), (B l_33), (.tuple #[(B s_34), (B c_35)]), (B s_34), (B c_35), (.tuple #[(B s_36), (B c_37)]), (B s_34), (B u_31), (.tuple #[(B s_36), (B c_37)]), (B s_36), (B c_37), (.int .i64 3), (B s_36), (PO g1_7 3), (B h_32), (B c_35), (B u_38), (B c_37), (B u_39), (.tuple #[(B h_40), (B l_41)]), (B u_39), (.int .u64 4294968273), (.tuple #[(B h_40), (B l_41)]), (B h_40), (B l_41), (.tuple #[(U s_42), (.bool false)]), (.agg #[B s_12, B s_20, B s_28, B s_36]), (B l_41), (B h_40), (.agg #[B l_41, B h_40, .int .u64 0, .int .u64 0]), (.tuple #[(U s_42), (.bool false)]), (U s_42), (.bool false), (.bool false), undef, undef, undef, undef, undef, undef, undef, (.tuple #[(U s_50), (.bool q_51)]), (U s_42), (U p_49), (.tuple #[(U s_50), (.bool q_51)]), (U s_50), (.bool q_51), undef, undef, undef], defers := [] } : Act) := haZ.trans (by kernel_rfl)
    subst eZ
    clear haZ
    obtain ⟨h6, X6⟩ := F.al 6 rfl rfl
    replace RR : Hid (RB w w25 [((bs 6), (Ar s_50)), (g23_8, (Ar s_42)), (g1_7, #[B s_12, B s_20, B s_28, B s_36]), (g1_6, #[B h_0, B h_1, B h_2, B h_3]), (w.heap.size + 1 + 1, Zr), (w.heap.size + 1, (Ar y)), (w.heap.size, (Ar x))]) := ⟨F.bw, (RowsAt.cons X6 (RowsAt.cons (F.row 5 rfl) (RowsAt.cons (F.row 4 rfl) (RowsAt.cons (F.row 3 rfl) (RowsAt.cons (F.row 2 rfl) (RowsAt.cons (F.row 1 rfl) (RowsAt.cons (F.row 0 rfl) RowsAt.nil)))))))⟩
    generalize bs 6 = g25_6 at *
    have k25_6_0 := Nat.lt_of_lt_of_le q0 h6
    have k25_6_1 := Nat.lt_of_lt_of_le q1 h6
    have k25_6_2 := Nat.lt_of_lt_of_le q2 h6
    have k25_6_3 := Nat.lt_of_lt_of_le q3 h6
    have k25_6_4 := Nat.lt_of_lt_of_le q4 h6
    have k25_6_5 := Nat.lt_of_lt_of_le q5 h6
    clear F qT q0 q1 q2 q3 q4 q5 h6 X6
    go_upto_region 17 with fail
    obtain ⟨q6, q5, q4, q3, q2, q1, q0, qT⟩ := RR.out.r.lts
    refine wp_region_told (by kernel_rfl) (by kernel_rfl) (by kernel_rfl) [(w.heap.size, (Ar x)), (w.heap.size + 1, (Ar y)), (w.heap.size + 1 + 1, Zr), (g1_6, #[B h_0, B h_1, B h_2, B h_3]), (g1_7, #[B s_12, B s_20, B s_28, B s_36]), (g23_8, (Ar s_42)), (g25_6, (Ar s_50))]
      [sV (.bool q_51)]
      (by kernel_rfl) RR.out.b (RowsAt.cons (RR.out.at 6 rfl) (RowsAt.cons (RR.out.at 5 rfl) (RowsAt.cons (RR.out.at 4 rfl) (RowsAt.cons (RR.out.at 3 rfl) (RowsAt.cons (RR.out.at 2 rfl) (RowsAt.cons (RR.out.at 1 rfl) (RowsAt.cons (RR.out.at 0 rfl) RowsAt.nil))))))) (StOk.of [] rfl StM.nil)
      (Obs.val (fun a' w' E => ob_move (.tmp 21) rfl (E.old 21 (by kernel_rfl)))
      Obs.nil) ?_
    intro bs w26 aZ haZ F
    have eZ : aZ = ({ tmps := #[(U x), (U y), (PT w.heap.size), (PT (w.heap.size + 1)), (PT (w.heap.size + 1 + 1)), (.int .u64 4294968273), (PT g1_6), (PT g1_7), (B u_39), (.int .i64 4), (B h_32), (B l_33), (B s_34), (B c_35), (B s_36), (B c_37), (B h_40), (B l_41), (PT g23_8), (.bool false), (PT g25_6), (.bool q_51), (.tuple #[(.agg #[B h_0, B h_1, B h_2, B h_3]), (.agg #[B l_4, B l_5, B l_6, B l_7])]), (U x), (U y), (.tuple #[(.agg #[B h_0, B h_1, B h_2, B h_3]), (.agg #[B l_4, B l_5, B l_6, B l_7])]), (.agg #[B h_0, B h_1, B h_2, B h_3]), (.agg #[B l_4, B l_5, B l_6, B l_7]), (.int .i64 4), (.bool false), (.int .i64 3), (.int .i64 4), (.tuple #[(B h_32), (B l_33)]), (.int .i64 3), (PO g1_6 3), (B h_3), (.int .u64 4294968273), (.tuple #[(B h_32), (B l_33)]), (B h_32), (B l_33), (.tuple #[(B s_34), (B c_35)]), (.int .i64 3), (PO g1_7 3), (B l_7), (B l_33), (.tuple #[(B s_34), (B c_35)]), (B s_34), (B c_35), (.tuple #[(B s_36), (B c_37)]), (B s_34), (B u_31), (.tuple #[(B s_36), (B c_37)]), (B s_36), (B c_37), (.int .i64 3), (B s_36), (PO g1_7 3), (B h_32), (B c_35), (B u_38), (B c_37), (B u_39), (.tuple #[(B h_40), (B l_41)]), (B u_39), (.int .u64 4294968273), (.tuple #[(B h_40), (B l_41)]), (B h_40), (B l_41), (.tuple #[(U s_42), (.bool false)]), (.agg #[B s_12, B s_20, B s_28, B s_36]), (B l_41), (B h_40), (.agg #[B l_41, B h_40, .int .u64 0, .int .u64 0]), (.tuple #[(U s_42), (.bool false)]), (U s_42), (.bool false), (.bool false), undef, undef, undef, undef, undef, undef, undef, (.tuple #[(U s_50), (.bool q_51)]), (U s_42), (U p_49), (.tuple #[(U s_50), (.bool q_51)]), (U s_50), (.bool q_51), (.bool q_51), undef, undef], defers := [] } : Act) := haZ.trans (by kernel_rfl)
    subst eZ
    clear haZ
    replace RR : Hid (RB w w26 [(g25_6, (Ar s_50)), (g23_8, (Ar s_42)), (g1_7, #[B s_12, B s_20, B s_28, B s_36]), (g1_6, #[B h_0, B h_1, B h_2, B h_3]), (w.heap.size + 1 + 1, Zr), (w.heap.size + 1, (Ar y)), (w.heap.size, (Ar x))]) := ⟨F.bw, (RowsAt.cons (F.row 6 rfl) (RowsAt.cons (F.row 5 rfl) (RowsAt.cons (F.row 4 rfl) (RowsAt.cons (F.row 3 rfl) (RowsAt.cons (F.row 2 rfl) (RowsAt.cons (F.row 1 rfl) (RowsAt.cons (F.row 0 rfl) RowsAt.nil)))))))⟩
    clear F qT q0 q1 q2 q3 q4 q5 q6
    cases q_51 with
    | true =>
      go_upto_region 18 with fail
      obtain ⟨q6, q5, q4, q3, q2, q1, q0, qT⟩ := RR.out.r.lts
      refine wp_region_told (by kernel_rfl) (by kernel_rfl) (by kernel_rfl) [(w.heap.size, (Ar x)), (w.heap.size + 1, (Ar y)), (g1_6, #[B h_0, B h_1, B h_2, B h_3]), (g1_7, #[B s_12, B s_20, B s_28, B s_36]), (g23_8, (Ar s_42)), (g25_6, (Ar s_50))]
        [sV (U s_42),
         sK (w.heap.size + 1 + 1) Zr (Ar s_42)]
        (by kernel_rfl) RR.out.b (RowsAt.cons (RR.out.at 6 rfl) (RowsAt.cons (RR.out.at 5 rfl) (RowsAt.cons (RR.out.at 3 rfl) (RowsAt.cons (RR.out.at 2 rfl) (RowsAt.cons (RR.out.at 1 rfl) (RowsAt.cons (RR.out.at 0 rfl) RowsAt.nil)))))) (StOk.of [(w.heap.size + 1 + 1, Zr)] rfl (StM.cons (RR.out.at 4 rfl) (by omega) (Apart.cons (by omega) (Apart.cons (by omega) (Apart.cons (by omega) (Apart.cons (by omega) (Apart.cons (by omega) (Apart.cons (by omega) Apart.nil)))))) Apart.nil StM.nil))
        (Obs.val (fun a' w' E => ob_loada 24 (.tmp 18) rfl (E.old 18 (by kernel_rfl)) (E.row (g := g23_8) (c := (Ar s_42)) 4 rfl) Tryd.underlying24 rfl (by kernel_rfl) rfl)
        (Obs.stk (fun a' w' E hr => ob_storea 24 (.tmp 4) (.tmp 91) rfl (E.old 4 (by kernel_rfl)) (E.new (v := (U s_42)) 91 0 (by kernel_rfl) rfl) rfl hr (by kernel_rfl) (Nat.le_of_ble_eq_true rfl) (by kernel_rfl) rfl)
        Obs.nil)) ?_
      intro bs w27 aZ haZ F
      have eZ : aZ = ({ tmps := #[(U x), (U y), (PT w.heap.size), (PT (w.heap.size + 1)), (PT (w.heap.size + 1 + 1)), (.int .u64 4294968273), (PT g1_6), (PT g1_7), (B u_39), (.int .i64 4), (B h_32), (B l_33), (B s_34), (B c_35), (B s_36), (B c_37), (B h_40), (B l_41), (PT g23_8), (.bool false), (PT g25_6), (.bool true), (.tuple #[(.agg #[B h_0, B h_1, B h_2, B h_3]), (.agg #[B l_4, B l_5, B l_6, B l_7])]), (U x), (U y), (.tuple #[(.agg #[B h_0, B h_1, B h_2, B h_3]), (.agg #[B l_4, B l_5, B l_6, B l_7])]), (.agg #[B h_0, B h_1, B h_2, B h_3]), (.agg #[B l_4, B l_5, B l_6, B l_7]), (.int .i64 4), (.bool false), (.int .i64 3), (.int .i64 4), (.tuple #[(B h_32), (B l_33)]), (.int .i64 3), (PO g1_6 3), (B h_3), (.int .u64 4294968273), (.tuple #[(B h_32), (B l_33)]), (B h_32), (B l_33), (.tuple #[(B s_34), (B c_35)]), (.int .i64 3), (PO g1_7 3), (B l_7), (B l_33), (.tuple #[(B s_34), (B c_35)]), (B s_34), (B c_35), (.tuple #[(B s_36), (B c_37)]), (B s_34), (B u_31), (.tuple #[(B s_36), (B c_37)]), (B s_36), (B c_37), (.int .i64 3), (B s_36), (PO g1_7 3), (B h_32), (B c_35), (B u_38), (B c_37), (B u_39), (.tuple #[(B h_40), (B l_41)]), (B u_39), (.int .u64 4294968273), (.tuple #[(B h_40), (B l_41)]), (B h_40), (B l_41), (.tuple #[(U s_42), (.bool false)]), (.agg #[B s_12, B s_20, B s_28, B s_36]), (B l_41), (B h_40), (.agg #[B l_41, B h_40, .int .u64 0, .int .u64 0]), (.tuple #[(U s_42), (.bool false)]), (U s_42), (.bool false), (.bool false), undef, undef, undef, undef, undef, undef, undef, (.tuple #[(U s_50), (.bool true)]), (U s_42), (U p_49), (.tuple #[(U s_50), (.bool true)]), (U s_50), (.bool true), (.bool true), (U s_42), undef], defers := [] } : Act) := haZ.trans (by kernel_rfl)
      subst eZ
      clear haZ
      replace RR : Hid (RB w w27 [(g25_6, (Ar s_50)), (g23_8, (Ar s_42)), (g1_7, #[B s_12, B s_20, B s_28, B s_36]), (g1_6, #[B h_0, B h_1, B h_2, B h_3]), (w.heap.size + 1 + 1, (Ar s_42)), (w.heap.size + 1, (Ar y)), (w.heap.size, (Ar x))]) := ⟨F.bw, (RowsAt.cons (F.row 5 rfl) (RowsAt.cons (F.row 4 rfl) (RowsAt.cons (F.row 3 rfl) (RowsAt.cons (F.row 2 rfl) (RowsAt.cons (F.sk 1 rfl) (RowsAt.cons (F.row 1 rfl) (RowsAt.cons (F.row 0 rfl) RowsAt.nil)))))))⟩
      clear F qT q0 q1 q2 q3 q4 q5 q6
      go_wp2
      exact bodyPost_ret (v := (U s_42)) (resA (p := 4) (ty := 24) rfl (g := w.heap.size + 1 + 1) rfl (RR.out.at 4 rfl) Tryd.underlying24 rfl (by kernel_rfl)) rfl ⟨rfl, RR.out.b⟩
    | false =>
      go_upto_region 19 with fail
      obtain ⟨q6, q5, q4, q3, q2, q1, q0, qT⟩ := RR.out.r.lts
      refine wp_region_told (by kernel_rfl) (by kernel_rfl) (by kernel_rfl) [(w.heap.size, (Ar x)), (w.heap.size + 1, (Ar y)), (g1_6, #[B h_0, B h_1, B h_2, B h_3]), (g1_7, #[B s_12, B s_20, B s_28, B s_36]), (g23_8, (Ar s_42)), (g25_6, (Ar s_50))]
        [sV (U s_50),
         sK (w.heap.size + 1 + 1) Zr (Ar s_50)]
        (by kernel_rfl) RR.out.b (RowsAt.cons (RR.out.at 6 rfl) (RowsAt.cons (RR.out.at 5 rfl) (RowsAt.cons (RR.out.at 3 rfl) (RowsAt.cons (RR.out.at 2 rfl) (RowsAt.cons (RR.out.at 1 rfl) (RowsAt.cons (RR.out.at 0 rfl) RowsAt.nil)))))) (StOk.of [(w.heap.size + 1 + 1, Zr)] rfl (StM.cons (RR.out.at 4 rfl) (by omega) (Apart.cons (by omega) (Apart.cons (by omega) (Apart.cons (by omega) (Apart.cons (by omega) (Apart.cons (by omega) (Apart.cons (by omega) Apart.nil)))))) Apart.nil StM.nil))
        (Obs.val (fun a' w' E => ob_loada 24 (.tmp 20) rfl (E.old 20 (by kernel_rfl)) (E.row (g := g25_6) (c := (Ar s_50)) 5 rfl) Tryd.underlying24 rfl (by kernel_rfl) rfl)
        (Obs.stk (fun a' w' E hr => ob_storea 24 (.tmp 4) (.tmp 92) rfl (E.old 4 (by kernel_rfl)) (E.new (v := (U s_50)) 92 0 (by kernel_rfl) rfl) rfl hr (by kernel_rfl) (Nat.le_of_ble_eq_true rfl) (by kernel_rfl) rfl)
        Obs.nil)) ?_
      intro bs w27 aZ haZ F
      have eZ : aZ = ({ tmps := #[(U x), (U y), (PT w.heap.size), (PT (w.heap.size + 1)), (PT (w.heap.size + 1 + 1)), (.int .u64 4294968273), (PT g1_6), (PT g1_7), (B u_39), (.int .i64 4), (B h_32), (B l_33), (B s_34), (B c_35), (B s_36), (B c_37), (B h_40), (B l_41), (PT g23_8), (.bool false), (PT g25_6), (.bool false), (.tuple #[(.agg #[B h_0, B h_1, B h_2, B h_3]), (.agg #[B l_4, B l_5, B l_6, B l_7])]), (U x), (U y), (.tuple #[(.agg #[B h_0, B h_1, B h_2, B h_3]), (.agg #[B l_4, B l_5, B l_6, B l_7])]), (.agg #[B h_0, B h_1, B h_2, B h_3]), (.agg #[B l_4, B l_5, B l_6, B l_7]), (.int .i64 4), (.bool false), (.int .i64 3), (.int .i64 4), (.tuple #[(B h_32), (B l_33)]), (.int .i64 3), (PO g1_6 3), (B h_3), (.int .u64 4294968273), (.tuple #[(B h_32), (B l_33)]), (B h_32), (B l_33), (.tuple #[(B s_34), (B c_35)]), (.int .i64 3), (PO g1_7 3), (B l_7), (B l_33), (.tuple #[(B s_34), (B c_35)]), (B s_34), (B c_35), (.tuple #[(B s_36), (B c_37)]), (B s_34), (B u_31), (.tuple #[(B s_36), (B c_37)]), (B s_36), (B c_37), (.int .i64 3), (B s_36), (PO g1_7 3), (B h_32), (B c_35), (B u_38), (B c_37), (B u_39), (.tuple #[(B h_40), (B l_41)]), (B u_39), (.int .u64 4294968273), (.tuple #[(B h_40), (B l_41)]), (B h_40), (B l_41), (.tuple #[(U s_42), (.bool false)]), (.agg #[B s_12, B s_20, B s_28, B s_36]), (B l_41), (B h_40), (.agg #[B l_41, B h_40, .int .u64 0, .int .u64 0]), (.tuple #[(U s_42), (.bool false)]), (U s_42), (.bool false), (.bool false), undef, undef, undef, undef, undef, undef, undef, (.tuple #[(U s_50), (.bool false)]), (U s_42), (U p_49), (.tuple #[(U s_50), (.bool false)]), (U s_50), (.bool false), (.bool false), undef, (U s_50)], defers := [] } : Act) := haZ.trans (by kernel_rfl)
      subst eZ
      clear haZ
      replace RR : Hid (RB w w27 [(g25_6, (Ar s_50)), (g23_8, (Ar s_42)), (g1_7, #[B s_12, B s_20, B s_28, B s_36]), (g1_6, #[B h_0, B h_1, B h_2, B h_3]), (w.heap.size + 1 + 1, (Ar s_50)), (w.heap.size + 1, (Ar y)), (w.heap.size, (Ar x))]) := ⟨F.bw, (RowsAt.cons (F.row 5 rfl) (RowsAt.cons (F.row 4 rfl) (RowsAt.cons (F.row 3 rfl) (RowsAt.cons (F.row 2 rfl) (RowsAt.cons (F.sk 1 rfl) (RowsAt.cons (F.row 1 rfl) (RowsAt.cons (F.row 0 rfl) RowsAt.nil)))))))⟩
      clear F qT q0 q1 q2 q3 q4 q5 q6
      go_wp2
      exact bodyPost_ret (v := (U s_50)) (resA (p := 4) (ty := 24) rfl (g := w.heap.size + 1 + 1) rfl (RR.out.at 4 rfl) Tryd.underlying24 rfl (by kernel_rfl)) rfl ⟨rfl, RR.out.b⟩
set_option maxRecDepth 100000 in
set_option maxHeartbeats 4000000 in
theorem rminus_raw (x y : Nat) {s_0 p_2 s_3 : Nat} {q_1 q_4 : Bool}
    (c1 : Does 19 #[(U x), (U y)] (.tuple #[(U s_0), (.bool q_1)]))
    (c2 : q_1 = true → Does 35 #[] (U p_2))
    (c3 : q_1 = true → Does 22 #[(U s_0), (U p_2)] (.tuple #[(U s_3), (.bool q_4)]))
    (w : World) : Calls Tryd.prog 43 #[(U x), (U y)] w fun e w' => e = .returned (cond q_1 (U s_3) (U s_0)) ∧ Below w.heap.size w w' := by
  go_enter Tryd.func43, Tryd.ntmps43
  go_upto_region 1 with fail
  refine name_world _ ?_
  intro wF hF0
  have RR : Hid (RB w wF [(w.heap.size + 1 + 1, Zr), (w.heap.size + 1, (Ar y)), (w.heap.size, (Ar x))]) := by rw [hF0]; exact (rbN (rbN (rbN (rb0 w) (by simp)) (by simp)) (by simp))
  clear hF0
  obtain ⟨q2, q1, q0, qT⟩ := RR.out.r.lts
  refine wp_region_told (by kernel_rfl) (by kernel_rfl) (by kernel_rfl) [(w.heap.size, (Ar x)), (w.heap.size + 1, (Ar y)), (w.heap.size + 1 + 1, Zr)]
    [sV (U x),
     sV (U y),
     sV (.tuple #[(U s_0), (.bool q_1)]),
     sV (.tuple #[(U s_0), (.bool q_1)]),
     sV (U s_0),
     sV (.bool q_1),
     sA (fun g => .pointer (some ⟨g, 0, none⟩)) 7 Zr (Ar s_0),
     sS 6,
     sV (.bool q_1)]
    (by kernel_rfl) RR.out.b (RowsAt.cons (RR.out.at 2 rfl) (RowsAt.cons (RR.out.at 1 rfl) (RowsAt.cons (RR.out.at 0 rfl) RowsAt.nil))) (StOk.of [] rfl StM.nil)
    (Obs.val (fun a' w' E => ob_loada 24 (.tmp 2) rfl (E.old 2 (by kernel_rfl)) (E.row (g := w.heap.size) (c := (Ar x)) 0 rfl) Tryd.underlying24 rfl (by kernel_rfl) rfl)
    (Obs.val (fun a' w' E => ob_loada 24 (.tmp 3) rfl (E.old 3 (by kernel_rfl)) (E.row (g := w.heap.size + 1) (c := (Ar y)) 1 rfl) Tryd.underlying24 rfl (by kernel_rfl) rfl)
    (Obs.val (fun a' w' E => ob_fcall 19 _ _ rfl (am2 (E.new (v := (U x)) 8 0 (by kernel_rfl) rfl) (E.new (v := (U y)) 9 1 (by kernel_rfl) rfl)) (fc19 _ _) (c1.out w'))
    (Obs.val (fun a' w' E => ob_move (.tmp 10) rfl (E.new (v := (.tuple #[(U s_0), (.bool q_1)])) 10 2 (by kernel_rfl) rfl))
    (Obs.val (fun a' w' E => ob_extract (.tmp 7) 0 rfl (E.new (v := (.tuple #[(U s_0), (.bool q_1)])) 7 3 (by kernel_rfl) rfl) rfl)
    (Obs.val (fun a' w' E => ob_extract (.tmp 7) 1 rfl (E.new (v := (.tuple #[(U s_0), (.bool q_1)])) 7 3 (by kernel_rfl) rfl) rfl)
    (Obs.alloc (fun a' w' E => ob_alloc (t := 24) (by simp [opAt, execOp, go_sem]))
    (Obs.sta rfl (fun a' w' g E ha hr => ob_storea 24 (.tmp 5) (.tmp 11) rfl (ha 5 (by kernel_rfl)) (E.new (v := (U s_0)) 11 4 (by kernel_rfl) rfl) rfl hr (by kernel_rfl) (Nat.le_of_ble_eq_true rfl) (by kernel_rfl) rfl)
    (Obs.val (fun a' w' E => ob_assign (.tmp 12) rfl (E.new (v := (.bool q_1)) 12 5 (by kernel_rfl) rfl))
    Obs.nil))))))))) ?_
  intro bs w1 aZ haZ F
  have eZ : aZ = ({ tmps := #[(U x), (U y), (PT w.heap.size), (PT (w.heap.size + 1)), (PT (w.heap.size + 1 + 1)), (PT ((bs 6))), (.bool q_1), (.tuple #[(U s_0), (.bool q_1)]), (U x), (U y), (.tuple #[(U s_0), (.bool q_1)]), (U s_0), (.bool q_1), undef, undef, undef, undef, undef, undef, undef, undef], defers := [] } : Act) := haZ.trans (by kernel_rfl)
  subst eZ
  clear haZ
  obtain ⟨h6, X6⟩ := F.al 6 rfl rfl
  replace RR : Hid (RB w w1 [((bs 6), (Ar s_0)), (w.heap.size + 1 + 1, Zr), (w.heap.size + 1, (Ar y)), (w.heap.size, (Ar x))]) := ⟨F.bw, (RowsAt.cons X6 (RowsAt.cons (F.row 2 rfl) (RowsAt.cons (F.row 1 rfl) (RowsAt.cons (F.row 0 rfl) RowsAt.nil))))⟩
  generalize bs 6 = g1_6 at *
  have k1_6_0 := Nat.lt_of_lt_of_le q0 h6
  have k1_6_1 := Nat.lt_of_lt_of_le q1 h6
  have k1_6_2 := Nat.lt_of_lt_of_le q2 h6
  clear F qT q0 q1 q2 h6 X6
  clear wF
  go_upto_region 2 with fail
  obtain ⟨q3, q2, q1, q0, qT⟩ := RR.out.r.lts
  refine wp_region_told (by kernel_rfl) (by kernel_rfl) (by kernel_rfl) [(w.heap.size, (Ar x)), (w.heap.size + 1, (Ar y)), (w.heap.size + 1 + 1, Zr), (g1_6, (Ar s_0))]
    [sV (.bool q_1)]
    (by kernel_rfl) RR.out.b (RowsAt.cons (RR.out.at 3 rfl) (RowsAt.cons (RR.out.at 2 rfl) (RowsAt.cons (RR.out.at 1 rfl) (RowsAt.cons (RR.out.at 0 rfl) RowsAt.nil)))) (StOk.of [] rfl StM.nil)
    (Obs.val (fun a' w' E => ob_move (.tmp 6) rfl (E.old 6 (by kernel_rfl)))
    Obs.nil) ?_
  intro bs w2 aZ haZ F
  have eZ : aZ = ({ tmps := #[(U x), (U y), (PT w.heap.size), (PT (w.heap.size + 1)), (PT (w.heap.size + 1 + 1)), (PT g1_6), (.bool q_1), (.tuple #[(U s_0), (.bool q_1)]), (U x), (U y), (.tuple #[(U s_0), (.bool q_1)]), (U s_0), (.bool q_1), (.bool q_1), undef, undef, undef, undef, undef, undef, undef], defers := [] } : Act) := haZ.trans (by kernel_rfl)
  subst eZ
  clear haZ
  replace RR : Hid (RB w w2 [(g1_6, (Ar s_0)), (w.heap.size + 1 + 1, Zr), (w.heap.size + 1, (Ar y)), (w.heap.size, (Ar x))]) := ⟨F.bw, (RowsAt.cons (F.row 3 rfl) (RowsAt.cons (F.row 2 rfl) (RowsAt.cons (F.row 1 rfl) (RowsAt.cons (F.row 0 rfl) RowsAt.nil))))⟩
  clear F qT q0 q1 q2 q3
  cases q_1 with
  | true =>
    go_upto_region 3 with fail
    obtain ⟨q3, q2, q1, q0, qT⟩ := RR.out.r.lts
    refine wp_region_told (by kernel_rfl) (by kernel_rfl) (by kernel_rfl) [(w.heap.size, (Ar x)), (w.heap.size + 1, (Ar y)), (w.heap.size + 1 + 1, Zr)]
      [sV (U s_0),
       sV (U p_2),
       sV (.tuple #[(U s_3), (.bool q_4)]),
       sV (.tuple #[(U s_3), (.bool q_4)]),
       sV (U s_3),
       sV (.bool q_4),
       sK (g1_6) (Ar s_0) (Ar s_3)]
      (by kernel_rfl) RR.out.b (RowsAt.cons (RR.out.at 3 rfl) (RowsAt.cons (RR.out.at 2 rfl) (RowsAt.cons (RR.out.at 1 rfl) RowsAt.nil))) (StOk.of [(g1_6, (Ar s_0))] rfl (StM.cons (RR.out.at 0 rfl) (by omega) (Apart.cons (by omega) (Apart.cons (by omega) (Apart.cons (by omega) Apart.nil))) Apart.nil StM.nil))
      (Obs.val (fun a' w' E => ob_loada 24 (.tmp 5) rfl (E.old 5 (by kernel_rfl)) (E.skb (g := g1_6) (i := (Ar s_0)) (e := (Ar s_3)) 6 rfl (by kernel_rfl)) Tryd.underlying24 rfl (by kernel_rfl) rfl)
      (Obs.val (fun a' w' E => ob_fcall 35 _ _ rfl (am0) (fc35 _ _) (((c2 rfl : Does 35 #[] (U p_2))).out w'))
      (Obs.val (fun a' w' E => ob_fcall 22 _ _ rfl (am2 (E.new (v := (U s_0)) 15 0 (by kernel_rfl) rfl) (E.new (v := (U p_2)) 16 1 (by kernel_rfl) rfl)) (fc22 _ _) (((c3 rfl : Does 22 #[(U s_0), (U p_2)] (.tuple #[(U s_3), (.bool q_4)]))).out w'))
      (Obs.val (fun a' w' E => ob_move (.tmp 17) rfl (E.new (v := (.tuple #[(U s_3), (.bool q_4)])) 17 2 (by kernel_rfl) rfl))
      (Obs.val (fun a' w' E => ob_extract (.tmp 14) 0 rfl (E.new (v := (.tuple #[(U s_3), (.bool q_4)])) 14 3 (by kernel_rfl) rfl) rfl)
      (Obs.val (fun a' w' E => ob_extract (.tmp 14) 1 rfl (E.new (v := (.tuple #[(U s_3), (.bool q_4)])) 14 3 (by kernel_rfl) rfl) rfl)
      (Obs.stk (fun a' w' E hr => ob_storea 24 (.tmp 5) (.tmp 18) rfl (E.old 5 (by kernel_rfl)) (E.new (v := (U s_3)) 18 4 (by kernel_rfl) rfl) rfl hr (by kernel_rfl) (Nat.le_of_ble_eq_true rfl) (by kernel_rfl) rfl)
      Obs.nil))))))) ?_
    intro bs w3 aZ haZ F
    have eZ : aZ = ({ tmps := #[(U x), (U y), (PT w.heap.size), (PT (w.heap.size + 1)), (PT (w.heap.size + 1 + 1)), (PT g1_6), (.bool true), (.tuple #[(U s_0), (.bool true)]), (U x), (U y), (.tuple #[(U s_0), (.bool true)]), (U s_0), (.bool true), (.bool true), (.tuple #[(U s_3), (.bool q_4)]), (U s_0), (U p_2), (.tuple #[(U s_3), (.bool q_4)]), (U s_3), (.bool q_4), undef], defers := [] } : Act) := haZ.trans (by kernel_rfl)
    subst eZ
    clear haZ
    replace RR : Hid (RB w w3 [(g1_6, (Ar s_3)), (w.heap.size + 1 + 1, Zr), (w.heap.size + 1, (Ar y)), (w.heap.size, (Ar x))]) := ⟨F.bw, (RowsAt.cons (F.sk 6 rfl) (RowsAt.cons (F.row 2 rfl) (RowsAt.cons (F.row 1 rfl) (RowsAt.cons (F.row 0 rfl) RowsAt.nil))))⟩
    clear F qT q0 q1 q2 q3
    go_upto_region 4 with fail
    obtain ⟨q3, q2, q1, q0, qT⟩ := RR.out.r.lts
    refine wp_region_told (by kernel_rfl) (by kernel_rfl) (by kernel_rfl) [(w.heap.size, (Ar x)), (w.heap.size + 1, (Ar y)), (g1_6, (Ar s_3))]
      [sV (U s_3),
       sK (w.heap.size + 1 + 1) Zr (Ar s_3)]
      (by kernel_rfl) RR.out.b (RowsAt.cons (RR.out.at 3 rfl) (RowsAt.cons (RR.out.at 2 rfl) (RowsAt.cons (RR.out.at 0 rfl) RowsAt.nil))) (StOk.of [(w.heap.size + 1 + 1, Zr)] rfl (StM.cons (RR.out.at 1 rfl) (by omega) (Apart.cons (by omega) (Apart.cons (by omega) (Apart.cons (by omega) Apart.nil))) Apart.nil StM.nil))
      (Obs.val (fun a' w' E => ob_loada 24 (.tmp 5) rfl (E.old 5 (by kernel_rfl)) (E.row (g := g1_6) (c := (Ar s_3)) 2 rfl) Tryd.underlying24 rfl (by kernel_rfl) rfl)
      (Obs.stk (fun a' w' E hr => ob_storea 24 (.tmp 4) (.tmp 20) rfl (E.old 4 (by kernel_rfl)) (E.new (v := (U s_3)) 20 0 (by kernel_rfl) rfl) rfl hr (by kernel_rfl) (Nat.le_of_ble_eq_true rfl) (by kernel_rfl) rfl)
      Obs.nil)) ?_
    intro bs w4 aZ haZ F
    have eZ : aZ = ({ tmps := #[(U x), (U y), (PT w.heap.size), (PT (w.heap.size + 1)), (PT (w.heap.size + 1 + 1)), (PT g1_6), (.bool true), (.tuple #[(U s_0), (.bool true)]), (U x), (U y), (.tuple #[(U s_0), (.bool true)]), (U s_0), (.bool true), (.bool true), (.tuple #[(U s_3), (.bool q_4)]), (U s_0), (U p_2), (.tuple #[(U s_3), (.bool q_4)]), (U s_3), (.bool q_4), (U s_3)], defers := [] } : Act) := haZ.trans (by kernel_rfl)
    subst eZ
    clear haZ
    replace RR : Hid (RB w w4 [(g1_6, (Ar s_3)), (w.heap.size + 1 + 1, (Ar s_3)), (w.heap.size + 1, (Ar y)), (w.heap.size, (Ar x))]) := ⟨F.bw, (RowsAt.cons (F.row 2 rfl) (RowsAt.cons (F.sk 1 rfl) (RowsAt.cons (F.row 1 rfl) (RowsAt.cons (F.row 0 rfl) RowsAt.nil))))⟩
    clear F qT q0 q1 q2 q3
    go_wp2
    exact bodyPost_ret (v := (U s_3)) (resA (p := 4) (ty := 24) rfl (g := w.heap.size + 1 + 1) rfl (RR.out.at 1 rfl) Tryd.underlying24 rfl (by kernel_rfl)) rfl ⟨rfl, RR.out.b⟩
  | false =>
    go_upto_region 4 with fail
    obtain ⟨q3, q2, q1, q0, qT⟩ := RR.out.r.lts
    refine wp_region_told (by kernel_rfl) (by kernel_rfl) (by kernel_rfl) [(w.heap.size, (Ar x)), (w.heap.size + 1, (Ar y)), (g1_6, (Ar s_0))]
      [sV (U s_0),
       sK (w.heap.size + 1 + 1) Zr (Ar s_0)]
      (by kernel_rfl) RR.out.b (RowsAt.cons (RR.out.at 3 rfl) (RowsAt.cons (RR.out.at 2 rfl) (RowsAt.cons (RR.out.at 0 rfl) RowsAt.nil))) (StOk.of [(w.heap.size + 1 + 1, Zr)] rfl (StM.cons (RR.out.at 1 rfl) (by omega) (Apart.cons (by omega) (Apart.cons (by omega) (Apart.cons (by omega) Apart.nil))) Apart.nil StM.nil))
      (Obs.val (fun a' w' E => ob_loada 24 (.tmp 5) rfl (E.old 5 (by kernel_rfl)) (E.row (g := g1_6) (c := (Ar s_0)) 2 rfl) Tryd.underlying24 rfl (by kernel_rfl) rfl)
      (Obs.stk (fun a' w' E hr => ob_storea 24 (.tmp 4) (.tmp 20) rfl (E.old 4 (by kernel_rfl)) (E.new (v := (U s_0)) 20 0 (by kernel_rfl) rfl) rfl hr (by kernel_rfl) (Nat.le_of_ble_eq_true rfl) (by kernel_rfl) rfl)
      Obs.nil)) ?_
    intro bs w3 aZ haZ F
    have eZ : aZ = ({ tmps := #[(U x), (U y), (PT w.heap.size), (PT (w.heap.size + 1)), (PT (w.heap.size + 1 + 1)), (PT g1_6), (.bool false), (.tuple #[(U s_0), (.bool false)]), (U x), (U y), (.tuple #[(U s_0), (.bool false)]), (U s_0), (.bool false), (.bool false), undef, undef, undef, undef, undef, undef, (U s_0)], defers := [] } : Act) := haZ.trans (by kernel_rfl)
    subst eZ
    clear haZ
    replace RR : Hid (RB w w3 [(g1_6, (Ar s_0)), (w.heap.size + 1 + 1, (Ar s_0)), (w.heap.size + 1, (Ar y)), (w.heap.size, (Ar x))]) := ⟨F.bw, (RowsAt.cons (F.row 2 rfl) (RowsAt.cons (F.sk 1 rfl) (RowsAt.cons (F.row 1 rfl) (RowsAt.cons (F.row 0 rfl) RowsAt.nil))))⟩
    clear F qT q0 q1 q2 q3
    go_wp2
    exact bodyPost_ret (v := (U s_0)) (resA (p := 4) (ty := 24) rfl (g := w.heap.size + 1 + 1) rfl (RR.out.at 1 rfl) Tryd.underlying24 rfl (by kernel_rfl)) rfl ⟨rfl, RR.out.b⟩
set_option maxRecDepth 100000 in
set_option maxHeartbeats 4000000 in
theorem rplus_ov (x y : Nat) {s_0 p_1 s_2 : Nat} {q_3 : Bool}
    (c1 : Does 22 #[(U x), (U y)] (.tuple #[(U s_0), (.bool true)]))
    (c2 : Does 35 #[] (U p_1))
    (c3 : Does 19 #[(U s_0), (U p_1)] (.tuple #[(U s_2), (.bool q_3)]))
    (w : World) : Calls Tryd.prog 58 #[(U x), (U y)] w fun e w' => e = .returned (U s_2) ∧ Below w.heap.size w w' := by
  go_enter Tryd.func58, Tryd.ntmps58
  go_upto_region 1 with fail
  refine name_world _ ?_
  intro wF hF0
  have RR : Hid (RB w wF [(w.heap.size + 1 + 1, Zr), (w.heap.size + 1, (Ar y)), (w.heap.size, (Ar x))]) := by rw [hF0]; exact (rbN (rbN (rbN (rb0 w) (by simp)) (by simp)) (by simp))
  clear hF0
  obtain ⟨q2, q1, q0, qT⟩ := RR.out.r.lts
  refine wp_region_told (by kernel_rfl) (by kernel_rfl) (by kernel_rfl) [(w.heap.size, (Ar x)), (w.heap.size + 1, (Ar y)), (w.heap.size + 1 + 1, Zr)]
    [sV (U x),
     sV (U y),
     sV (.tuple #[(U s_0), (.bool true)]),
     sV (.tuple #[(U s_0), (.bool true)]),
     sV (U s_0),
     sV (.bool true),
     sA (fun g => .pointer (some ⟨g, 0, none⟩)) 7 Zr (Ar s_0),
     sS 6,
     sV (.bool true)]
    (by kernel_rfl) RR.out.b (RowsAt.cons (RR.out.at 2 rfl) (RowsAt.cons (RR.out.at 1 rfl) (RowsAt.cons (RR.out.at 0 rfl) RowsAt.nil))) (StOk.of [] rfl StM.nil)
    (Obs.val (fun a' w' E => ob_loada 24 (.tmp 2) rfl (E.old 2 (by kernel_rfl)) (E.row (g := w.heap.size) (c := (Ar x)) 0 rfl) Tryd.underlying24 rfl (by kernel_rfl) rfl)
    (Obs.val (fun a' w' E => ob_loada 24 (.tmp 3) rfl (E.old 3 (by kernel_rfl)) (E.row (g := w.heap.size + 1) (c := (Ar y)) 1 rfl) Tryd.underlying24 rfl (by kernel_rfl) rfl)
    (Obs.val (fun a' w' E => ob_fcall 22 _ _ rfl (am2 (E.new (v := (U x)) 10 0 (by kernel_rfl) rfl) (E.new (v := (U y)) 11 1 (by kernel_rfl) rfl)) (fc22 _ _) (c1.out w'))
    (Obs.val (fun a' w' E => ob_move (.tmp 12) rfl (E.new (v := (.tuple #[(U s_0), (.bool true)])) 12 2 (by kernel_rfl) rfl))
    (Obs.val (fun a' w' E => ob_extract (.tmp 9) 0 rfl (E.new (v := (.tuple #[(U s_0), (.bool true)])) 9 3 (by kernel_rfl) rfl) rfl)
    (Obs.val (fun a' w' E => ob_extract (.tmp 9) 1 rfl (E.new (v := (.tuple #[(U s_0), (.bool true)])) 9 3 (by kernel_rfl) rfl) rfl)
    (Obs.alloc (fun a' w' E => ob_alloc (t := 24) (by simp [opAt, execOp, go_sem]))
    (Obs.sta rfl (fun a' w' g E ha hr => ob_storea 24 (.tmp 5) (.tmp 13) rfl (ha 5 (by kernel_rfl)) (E.new (v := (U s_0)) 13 4 (by kernel_rfl) rfl) rfl hr (by kernel_rfl) (Nat.le_of_ble_eq_true rfl) (by kernel_rfl) rfl)
    (Obs.val (fun a' w' E => ob_assign (.tmp 14) rfl (E.new (v := (.bool true)) 14 5 (by kernel_rfl) rfl))
    Obs.nil))))))))) ?_
  intro bs w1 aZ haZ F
  have eZ : aZ = ({ tmps := #[(U x), (U y), (PT w.heap.size), (PT (w.heap.size + 1)), (PT (w.heap.size + 1 + 1)), (PT ((bs 6))), (.bool true), undef, undef, (.tuple #[(U s_0), (.bool true)]), (U x), (U y), (.tuple #[(U s_0), (.bool true)]), (U s_0), (.bool true), undef, undef, undef, undef, undef, undef, undef, undef, undef, undef, undef, undef, undef], defers := [] } : Act) := haZ.trans (by kernel_rfl)
  subst eZ
  clear haZ
  obtain ⟨h6, X6⟩ := F.al 6 rfl rfl
  replace RR : Hid (RB w w1 [((bs 6), (Ar s_0)), (w.heap.size + 1 + 1, Zr), (w.heap.size + 1, (Ar y)), (w.heap.size, (Ar x))]) := ⟨F.bw, (RowsAt.cons X6 (RowsAt.cons (F.row 2 rfl) (RowsAt.cons (F.row 1 rfl) (RowsAt.cons (F.row 0 rfl) RowsAt.nil))))⟩
  generalize bs 6 = g1_6 at *
  have k1_6_0 := Nat.lt_of_lt_of_le q0 h6
  have k1_6_1 := Nat.lt_of_lt_of_le q1 h6
  have k1_6_2 := Nat.lt_of_lt_of_le q2 h6
  clear F qT q0 q1 q2 h6 X6
  clear wF
  go_upto_region 2 with fail
  obtain ⟨q3, q2, q1, q0, qT⟩ := RR.out.r.lts
  refine wp_region_told (by kernel_rfl) (by kernel_rfl) (by kernel_rfl) [(w.heap.size, (Ar x)), (w.heap.size + 1, (Ar y)), (w.heap.size + 1 + 1, Zr), (g1_6, (Ar s_0))]
    [sV (U s_0),
     sV (U p_1),
     sV (.tuple #[(U s_2), (.bool q_3)]),
     sV (.tuple #[(U s_2), (.bool q_3)]),
     sV (U s_2),
     sV (.bool q_3),
     sA (fun g => .pointer (some ⟨g, 0, none⟩)) 7 Zr (Ar s_2),
     sS 6,
     sV (.bool q_3)]
    (by kernel_rfl) RR.out.b (RowsAt.cons (RR.out.at 3 rfl) (RowsAt.cons (RR.out.at 2 rfl) (RowsAt.cons (RR.out.at 1 rfl) (RowsAt.cons (RR.out.at 0 rfl) RowsAt.nil)))) (StOk.of [] rfl StM.nil)
    (Obs.val (fun a' w' E => ob_loada 24 (.tmp 5) rfl (E.old 5 (by kernel_rfl)) (E.row (g := g1_6) (c := (Ar s_0)) 3 rfl) Tryd.underlying24 rfl (by kernel_rfl) rfl)
    (Obs.val (fun a' w' E => ob_fcall 35 _ _ rfl (am0) (fc35 _ _) (c2.out w'))
    (Obs.val (fun a' w' E => ob_fcall 19 _ _ rfl (am2 (E.new (v := (U s_0)) 16 0 (by kernel_rfl) rfl) (E.new (v := (U p_1)) 17 1 (by kernel_rfl) rfl)) (fc19 _ _) (c3.out w'))
    (Obs.val (fun a' w' E => ob_move (.tmp 18) rfl (E.new (v := (.tuple #[(U s_2), (.bool q_3)])) 18 2 (by kernel_rfl) rfl))
    (Obs.val (fun a' w' E => ob_extract (.tmp 15) 0 rfl (E.new (v := (.tuple #[(U s_2), (.bool q_3)])) 15 3 (by kernel_rfl) rfl) rfl)
    (Obs.val (fun a' w' E => ob_extract (.tmp 15) 1 rfl (E.new (v := (.tuple #[(U s_2), (.bool q_3)])) 15 3 (by kernel_rfl) rfl) rfl)
    (Obs.alloc (fun a' w' E => ob_alloc (t := 24) (by simp [opAt, execOp, go_sem]))
    (Obs.sta rfl (fun a' w' g E ha hr => ob_storea 24 (.tmp 7) (.tmp 19) rfl (ha 7 (by kernel_rfl)) (E.new (v := (U s_2)) 19 4 (by kernel_rfl) rfl) rfl hr (by kernel_rfl) (Nat.le_of_ble_eq_true rfl) (by kernel_rfl) rfl)
    (Obs.val (fun a' w' E => ob_assign (.tmp 20) rfl (E.new (v := (.bool q_3)) 20 5 (by kernel_rfl) rfl))
    Obs.nil))))))))) ?_
  intro bs w2 aZ haZ F
  have eZ : aZ = ({ tmps := #[(U x), (U y), (PT w.heap.size), (PT (w.heap.size + 1)), (PT (w.heap.size + 1 + 1)), (PT g1_6), (.bool true), (PT ((bs 6))), (.bool q_3), (.tuple #[(U s_0), (.bool true)]), (U x), (U y), (.tuple #[(U s_0), (.bool true)]), (U s_0), (.bool true), (.tuple #[(U s_2), (.bool q_3)]), (U s_0), (U p_1), (.tuple #[(U s_2), (.bool q_3)]), (U s_2), (.bool q_3), undef, undef, undef, undef, undef, undef, undef], defers := [] } : Act) := haZ.trans (by kernel_rfl)
  subst eZ
  clear haZ
  obtain ⟨h6, X6⟩ := F.al 6 rfl rfl
  replace RR : Hid (RB w w2 [((bs 6), (Ar s_2)), (g1_6, (Ar s_0)), (w.heap.size + 1 + 1, Zr), (w.heap.size + 1, (Ar y)), (w.heap.size, (Ar x))]) := ⟨F.bw, (RowsAt.cons X6 (RowsAt.cons (F.row 3 rfl) (RowsAt.cons (F.row 2 rfl) (RowsAt.cons (F.row 1 rfl) (RowsAt.cons (F.row 0 rfl) RowsAt.nil)))))⟩
  generalize bs 6 = g2_6 at *
  have k2_6_0 := Nat.lt_of_lt_of_le q0 h6
  have k2_6_1 := Nat.lt_of_lt_of_le q1 h6
  have k2_6_2 := Nat.lt_of_lt_of_le q2 h6
  have k2_6_3 := Nat.lt_of_lt_of_le q3 h6
  clear F qT q0 q1 q2 q3 h6 X6
  go_upto_region 3 with fail
  obtain ⟨q4, q3, q2, q1, q0, qT⟩ := RR.out.r.lts
  refine wp_region_told (by kernel_rfl) (by kernel_rfl) (by kernel_rfl) [(w.heap.size, (Ar x)), (w.heap.size + 1, (Ar y)), (w.heap.size + 1 + 1, Zr), (g1_6, (Ar s_0)), (g2_6, (Ar s_2))]
    [sV (.bool true),
     sV (.bool true),
     sV undef,
     sV undef,
     sV (.bool true)]
    (by kernel_rfl) RR.out.b (RowsAt.cons (RR.out.at 4 rfl) (RowsAt.cons (RR.out.at 3 rfl) (RowsAt.cons (RR.out.at 2 rfl) (RowsAt.cons (RR.out.at 1 rfl) (RowsAt.cons (RR.out.at 0 rfl) RowsAt.nil))))) (StOk.of [] rfl StM.nil)
    (Obs.val (fun a' w' E => ob_move (.tmp 6) rfl (E.old 6 (by kernel_rfl)))
    (Obs.val (fun a' w' E => ob_move (.tmp 21) rfl (E.new (v := (.bool true)) 21 0 (by kernel_rfl) rfl))
    (Obs.skip rfl rfl (fun a' w' E => E.new 22 1 (by kernel_rfl) rfl) (by decide) 
    (Obs.skip rfl rfl (fun a' w' E => E.new 22 1 (by kernel_rfl) rfl) (by decide) 
    (Obs.val (fun a' w' E => ob_pick (.tmp 22) (.const (.bool true)) (.tmp 24) rfl (E.new (v := (.bool true)) 22 1 (by kernel_rfl) rfl) (evc a' (.bool true)))
    Obs.nil))))) ?_
  intro bs w3 aZ haZ F
  have eZ : aZ = ({ tmps := #[(U x), (U y), (PT w.heap.size), (PT (w.heap.size + 1)), (PT (w.heap.size + 1 + 1)), (PT g1_6), (.bool true), (PT g2_6), (.bool q_3), (.tuple #[(U s_0), (.bool true)]), (U x), (U y), (.tuple #[(U s_0), (.bool true)]), (U s_0), (.bool true), (.tuple #[(U s_2), (.bool q_3)]), (U s_0), (U p_1), (.tuple #[(U s_2), (.bool q_3)]), (U s_2), (.bool q_3), (.bool true), (.bool true), undef, undef, (.bool true), undef, undef], defers := [] } : Act) := haZ.trans (by kernel_rfl)
  subst eZ
  clear haZ
  replace RR : Hid (RB w w3 [(g2_6, (Ar s_2)), (g1_6, (Ar s_0)), (w.heap.size + 1 + 1, Zr), (w.heap.size + 1, (Ar y)), (w.heap.size, (Ar x))]) := ⟨F.bw, (RowsAt.cons (F.row 4 rfl) (RowsAt.cons (F.row 3 rfl) (RowsAt.cons (F.row 2 rfl) (RowsAt.cons (F.row 1 rfl) (RowsAt.cons (F.row 0 rfl) RowsAt.nil)))))⟩
  clear F qT q0 q1 q2 q3 q4
  go_upto_region 4 with fail
  obtain ⟨q4, q3, q2, q1, q0, qT⟩ := RR.out.r.lts
  refine wp_region_told (by kernel_rfl) (by kernel_rfl) (by kernel_rfl) [(w.heap.size, (Ar x)), (w.heap.size + 1, (Ar y)), (g1_6, (Ar s_0)), (g2_6, (Ar s_2))]
    [sV (U s_2),
     sK (w.heap.size + 1 + 1) Zr (Ar s_2)]
    (by kernel_rfl) RR.out.b (RowsAt.cons (RR.out.at 4 rfl) (RowsAt.cons (RR.out.at 3 rfl) (RowsAt.cons (RR.out.at 1 rfl) (RowsAt.cons (RR.out.at 0 rfl) RowsAt.nil)))) (StOk.of [(w.heap.size + 1 + 1, Zr)] rfl (StM.cons (RR.out.at 2 rfl) (by omega) (Apart.cons (by omega) (Apart.cons (by omega) (Apart.cons (by omega) (Apart.cons (by omega) Apart.nil)))) Apart.nil StM.nil))
    (Obs.val (fun a' w' E => ob_loada 24 (.tmp 7) rfl (E.old 7 (by kernel_rfl)) (E.row (g := g2_6) (c := (Ar s_2)) 3 rfl) Tryd.underlying24 rfl (by kernel_rfl) rfl)
    (Obs.stk (fun a' w' E hr => ob_storea 24 (.tmp 4) (.tmp 26) rfl (E.old 4 (by kernel_rfl)) (E.new (v := (U s_2)) 26 0 (by kernel_rfl) rfl) rfl hr (by kernel_rfl) (Nat.le_of_ble_eq_true rfl) (by kernel_rfl) rfl)
    Obs.nil)) ?_
  intro bs w4 aZ haZ F
  have eZ : aZ = ({ tmps := #[(U x), (U y), (PT w.heap.size), (PT (w.heap.size + 1)), (PT (w.heap.size + 1 + 1)), (PT g1_6), (.bool true), (PT g2_6), (.bool q_3), (.tuple #[(U s_0), (.bool true)]), (U x), (U y), (.tuple #[(U s_0), (.bool true)]), (U s_0), (.bool true), (.tuple #[(U s_2), (.bool q_3)]), (U s_0), (U p_1), (.tuple #[(U s_2), (.bool q_3)]), (U s_2), (.bool q_3), (.bool true), (.bool true), undef, undef, (.bool true), (U s_2), undef], defers := [] } : Act) := haZ.trans (by kernel_rfl)
  subst eZ
  clear haZ
  replace RR : Hid (RB w w4 [(g2_6, (Ar s_2)), (g1_6, (Ar s_0)), (w.heap.size + 1 + 1, (Ar s_2)), (w.heap.size + 1, (Ar y)), (w.heap.size, (Ar x))]) := ⟨F.bw, (RowsAt.cons (F.row 3 rfl) (RowsAt.cons (F.row 2 rfl) (RowsAt.cons (F.sk 1 rfl) (RowsAt.cons (F.row 1 rfl) (RowsAt.cons (F.row 0 rfl) RowsAt.nil)))))⟩
  clear F qT q0 q1 q2 q3 q4
  go_wp2
  exact bodyPost_ret (v := (U s_2)) (resA (p := 4) (ty := 24) rfl (g := w.heap.size + 1 + 1) rfl (RR.out.at 2 rfl) Tryd.underlying24 rfl (by kernel_rfl)) rfl ⟨rfl, RR.out.b⟩
set_option maxRecDepth 100000 in
set_option maxHeartbeats 4000000 in
theorem rplus_no (x y : Nat) {s_0 p_1 s_2 : Nat}
    (c1 : Does 22 #[(U x), (U y)] (.tuple #[(U s_0), (.bool false)]))
    (c2 : Does 35 #[] (U p_1))
    (c3 : Does 19 #[(U s_0), (U p_1)] (.tuple #[(U s_2), (.bool false)]))
    (w : World) : Calls Tryd.prog 58 #[(U x), (U y)] w fun e w' => e = .returned (U s_2) ∧ Below w.heap.size w w' := by
  go_enter Tryd.func58, Tryd.ntmps58
  go_upto_region 1 with fail
  refine name_world _ ?_
  intro wF hF0
  have RR : Hid (RB w wF [(w.heap.size + 1 + 1, Zr), (w.heap.size + 1, (Ar y)), (w.heap.size, (Ar x))]) := by rw [hF0]; exact (rbN (rbN (rbN (rb0 w) (by simp)) (by simp)) (by simp))
  clear hF0
  obtain ⟨q2, q1, q0, qT⟩ := RR.out.r.lts
  refine wp_region_told (by kernel_rfl) (by kernel_rfl) (by kernel_rfl) [(w.heap.size, (Ar x)), (w.heap.size + 1, (Ar y)), (w.heap.size + 1 + 1, Zr)]
    [sV (U x),
     sV (U y),
     sV (.tuple #[(U s_0), (.bool false)]),
     sV (.tuple #[(U s_0), (.bool false)]),
     sV (U s_0),
     sV (.bool false),
     sA (fun g => .pointer (some ⟨g, 0, none⟩)) 7 Zr (Ar s_0),
     sS 6,
     sV (.bool false)]
    (by kernel_rfl) RR.out.b (RowsAt.cons (RR.out.at 2 rfl) (RowsAt.cons (RR.out.at 1 rfl) (RowsAt.cons (RR.out.at 0 rfl) RowsAt.nil))) (StOk.of [] rfl StM.nil)
    (Obs.val (fun a' w' E => ob_loada 24 (.tmp 2) rfl (E.old 2 (by kernel_rfl)) (E.row (g := w.heap.size) (c := (Ar x)) 0 rfl) Tryd.underlying24 rfl (by kernel_rfl) rfl)
    (Obs.val (fun a' w' E => ob_loada 24 (.tmp 3) rfl (E.old 3 (by kernel_rfl)) (E.row (g := w.heap.size + 1) (c := (Ar y)) 1 rfl) Tryd.underlying24 rfl (by kernel_rfl) rfl)
    (Obs.val (fun a' w' E => ob_fcall 22 _ _ rfl (am2 (E.new (v := (U x)) 10 0 (by kernel_rfl) rfl) (E.new (v := (U y)) 11 1 (by kernel_rfl) rfl)) (fc22 _ _) (c1.out w'))
    (Obs.val (fun a' w' E => ob_move (.tmp 12) rfl (E.new (v := (.tuple #[(U s_0), (.bool false)])) 12 2 (by kernel_rfl) rfl))
    (Obs.val (fun a' w' E => ob_extract (.tmp 9) 0 rfl (E.new (v := (.tuple #[(U s_0), (.bool false)])) 9 3 (by kernel_rfl) rfl) rfl)
    (Obs.val (fun a' w' E => ob_extract (.tmp 9) 1 rfl (E.new (v := (.tuple #[(U s_0), (.bool false)])) 9 3 (by kernel_rfl) rfl) rfl)
    (Obs.alloc (fun a' w' E => ob_alloc (t := 24) (by simp [opAt, execOp, go_sem]))
    (Obs.sta rfl (fun a' w' g E ha hr => ob_storea 24 (.tmp 5) (.tmp 13) rfl (ha 5 (by kernel_rfl)) (E.new (v := (U s_0)) 13 4 (by kernel_rfl) rfl) rfl hr (by kernel_rfl) (Nat.le_of_ble_eq_true rfl) (by kernel_rfl) rfl)
    (Obs.val (fun a' w' E => ob_assign (.tmp 14) rfl (E.new (v := (.bool false)) 14 5 (by kernel_rfl) rfl))
    Obs.nil))))))))) ?_
  intro bs w1 aZ haZ F
  have eZ : aZ = ({ tmps := #[(U x), (U y), (PT w.heap.size), (PT (w.heap.size + 1)), (PT (w.heap.size + 1 + 1)), (PT ((bs 6))), (.bool false), undef, undef, (.tuple #[(U s_0), (.bool false)]), (U x), (U y), (.tuple #[(U s_0), (.bool false)]), (U s_0), (.bool false), undef, undef, undef, undef, undef, undef, undef, undef, undef, undef, undef, undef, undef], defers := [] } : Act) := haZ.trans (by kernel_rfl)
  subst eZ
  clear haZ
  obtain ⟨h6, X6⟩ := F.al 6 rfl rfl
  replace RR : Hid (RB w w1 [((bs 6), (Ar s_0)), (w.heap.size + 1 + 1, Zr), (w.heap.size + 1, (Ar y)), (w.heap.size, (Ar x))]) := ⟨F.bw, (RowsAt.cons X6 (RowsAt.cons (F.row 2 rfl) (RowsAt.cons (F.row 1 rfl) (RowsAt.cons (F.row 0 rfl) RowsAt.nil))))⟩
  generalize bs 6 = g1_6 at *
  have k1_6_0 := Nat.lt_of_lt_of_le q0 h6
  have k1_6_1 := Nat.lt_of_lt_of_le q1 h6
  have k1_6_2 := Nat.lt_of_lt_of_le q2 h6
  clear F qT q0 q1 q2 h6 X6
  clear wF
  go_upto_region 2 with fail
  obtain ⟨q3, q2, q1, q0, qT⟩ := RR.out.r.lts
  refine wp_region_told (by kernel_rfl) (by kernel_rfl) (by kernel_rfl) [(w.heap.size, (Ar x)), (w.heap.size + 1, (Ar y)), (w.heap.size + 1 + 1, Zr), (g1_6, (Ar s_0))]
    [sV (U s_0),
     sV (U p_1),
     sV (.tuple #[(U s_2), (.bool false)]),
     sV (.tuple #[(U s_2), (.bool false)]),
     sV (U s_2),
     sV (.bool false),
     sA (fun g => .pointer (some ⟨g, 0, none⟩)) 7 Zr (Ar s_2),
     sS 6,
     sV (.bool false)]
    (by kernel_rfl) RR.out.b (RowsAt.cons (RR.out.at 3 rfl) (RowsAt.cons (RR.out.at 2 rfl) (RowsAt.cons (RR.out.at 1 rfl) (RowsAt.cons (RR.out.at 0 rfl) RowsAt.nil)))) (StOk.of [] rfl StM.nil)
    (Obs.val (fun a' w' E => ob_loada 24 (.tmp 5) rfl (E.old 5 (by kernel_rfl)) (E.row (g := g1_6) (c := (Ar s_0)) 3 rfl) Tryd.underlying24 rfl (by kernel_rfl) rfl)
    (Obs.val (fun a' w' E => ob_fcall 35 _ _ rfl (am0) (fc35 _ _) (c2.out w'))
    (Obs.val (fun a' w' E => ob_fcall 19 _ _ rfl (am2 (E.new (v := (U s_0)) 16 0 (by kernel_rfl) rfl) (E.new (v := (U p_1)) 17 1 (by kernel_rfl) rfl)) (fc19 _ _) (c3.out w'))
    (Obs.val (fun a' w' E => ob_move (.tmp 18) rfl (E.new (v := (.tuple #[(U s_2), (.bool false)])) 18 2 (by kernel_rfl) rfl))
    (Obs.val (fun a' w' E => ob_extract (.tmp 15) 0 rfl (E.new (v := (.tuple #[(U s_2), (.bool false)])) 15 3 (by kernel_rfl) rfl) rfl)
    (Obs.val (fun a' w' E => ob_extract (.tmp 15) 1 rfl (E.new (v := (.tuple #[(U s_2), (.bool false)])) 15 3 (by kernel_rfl) rfl) rfl)
    (Obs.alloc (fun a' w' E => ob_alloc (t := 24) (by simp [opAt, execOp, go_sem]))
    (Obs.sta rfl (fun a' w' g E ha hr => ob_storea 24 (.tmp 7) (.tmp 19) rfl (ha 7 (by kernel_rfl)) (E.new (v := (U s_2)) 19 4 (by kernel_rfl) rfl) rfl hr (by kernel_rfl) (Nat.le_of_ble_eq_true rfl) (by kernel_rfl) rfl)
    (Obs.val (fun a' w' E => ob_assign (.tmp 20) rfl (E.new (v := (.bool false)) 20 5 (by kernel_rfl) rfl))
    Obs.nil))))))))) ?_
  intro bs w2 aZ haZ F
  have eZ : aZ = ({ tmps := #[(U x), (U y), (PT w.heap.size), (PT (w.heap.size + 1)), (PT (w.heap.size + 1 + 1)), (PT g1_6), (.bool false), (PT ((bs 6))), (.bool false), (.tuple #[(U s_0), (.bool false)]), (U x), (U y), (.tuple #[(U s_0), (.bool false)]), (U s_0), (.bool false), (.tuple #[(U s_2), (.bool false)]), (U s_0), (U p_1), (.tuple #[(U s_2), (.bool false)]), (U s_2), (.bool false), undef, undef, undef, undef, undef, undef, undef], defers := [] } : Act) := haZ.trans (by kernel_rfl)
  subst eZ
  clear haZ
  obtain ⟨h6, X6⟩ := F.al 6 rfl rfl
  replace RR : Hid (RB w w2 [((bs 6), (Ar s_2)), (g1_6, (Ar s_0)), (w.heap.size + 1 + 1, Zr), (w.heap.size + 1, (Ar y)), (w.heap.size, (Ar x))]) := ⟨F.bw, (RowsAt.cons X6 (RowsAt.cons (F.row 3 rfl) (RowsAt.cons (F.row 2 rfl) (RowsAt.cons (F.row 1 rfl) (RowsAt.cons (F.row 0 rfl) RowsAt.nil)))))⟩
  generalize bs 6 = g2_6 at *
  have k2_6_0 := Nat.lt_of_lt_of_le q0 h6
  have k2_6_1 := Nat.lt_of_lt_of_le q1 h6
  have k2_6_2 := Nat.lt_of_lt_of_le q2 h6
  have k2_6_3 := Nat.lt_of_lt_of_le q3 h6
  clear F qT q0 q1 q2 q3 h6 X6
  go_upto_region 3 with fail
  obtain ⟨q4, q3, q2, q1, q0, qT⟩ := RR.out.r.lts
  refine wp_region_told (by kernel_rfl) (by kernel_rfl) (by kernel_rfl) [(w.heap.size, (Ar x)), (w.heap.size + 1, (Ar y)), (w.heap.size + 1 + 1, Zr), (g1_6, (Ar s_0)), (g2_6, (Ar s_2))]
    [sV (.bool false),
     sV (.bool false),
     sV (.bool false),
     sV (.bool true),
     sV (.bool true)]
    (by kernel_rfl) RR.out.b (RowsAt.cons (RR.out.at 4 rfl) (RowsAt.cons (RR.out.at 3 rfl) (RowsAt.cons (RR.out.at 2 rfl) (RowsAt.cons (RR.out.at 1 rfl) (RowsAt.cons (RR.out.at 0 rfl) RowsAt.nil))))) (StOk.of [] rfl StM.nil)
    (Obs.val (fun a' w' E => ob_move (.tmp 6) rfl (E.old 6 (by kernel_rfl)))
    (Obs.val (fun a' w' E => ob_move (.tmp 21) rfl (E.new (v := (.bool false)) 21 0 (by kernel_rfl) rfl))
    (Obs.gval rfl rfl (fun a' w' E => E.new 22 1 (by kernel_rfl) rfl) (fun a' w' E => ob_move (.tmp 8) rfl (E.old 8 (by kernel_rfl)))
    (Obs.gval rfl rfl (fun a' w' E => E.new 22 1 (by kernel_rfl) rfl) (fun a' w' E => ob_unOp .not 4 (.tmp 23) rfl (E.new (v := (.bool false)) 23 2 (by kernel_rfl) rfl) (by simp [go_sem]))
    (Obs.val (fun a' w' E => ob_pick (.tmp 22) (.const (.bool true)) (.tmp 24) rfl (E.new (v := (.bool false)) 22 1 (by kernel_rfl) rfl) (E.new (v := (.bool true)) 24 3 (by kernel_rfl) rfl))
    Obs.nil))))) ?_
  intro bs w3 aZ haZ F
  have eZ : aZ = ({ tmps := #[(U x), (U y), (PT w.heap.size), (PT (w.heap.size + 1)), (PT (w.heap.size + 1 + 1)), (PT g1_6), (.bool false), (PT g2_6), (.bool false), (.tuple #[(U s_0), (.bool false)]), (U x), (U y), (.tuple #[(U s_0), (.bool false)]), (U s_0), (.bool false), (.tuple #[(U s_2), (.bool false)]), (U s_0), (U p_1), (.tuple #[(U s_2), (.bool false)]), (U s_2), (.bool false), (.bool false), (.bool false), (.bool false), (.bool true), (.bool true), undef, undef], defers := [] } : Act) := haZ.trans (by kernel_rfl)
  subst eZ
  clear haZ
  replace RR : Hid (RB w w3 [(g2_6, (Ar s_2)), (g1_6, (Ar s_0)), (w.heap.size + 1 + 1, Zr), (w.heap.size + 1, (Ar y)), (w.heap.size, (Ar x))]) := ⟨F.bw, (RowsAt.cons (F.row 4 rfl) (RowsAt.cons (F.row 3 rfl) (RowsAt.cons (F.row 2 rfl) (RowsAt.cons (F.row 1 rfl) (RowsAt.cons (F.row 0 rfl) RowsAt.nil)))))⟩
  clear F qT q0 q1 q2 q3 q4
  go_upto_region 4 with fail
  obtain ⟨q4, q3, q2, q1, q0, qT⟩ := RR.out.r.lts
  refine wp_region_told (by kernel_rfl) (by kernel_rfl) (by kernel_rfl) [(w.heap.size, (Ar x)), (w.heap.size + 1, (Ar y)), (g1_6, (Ar s_0)), (g2_6, (Ar s_2))]
    [sV (U s_2),
     sK (w.heap.size + 1 + 1) Zr (Ar s_2)]
    (by kernel_rfl) RR.out.b (RowsAt.cons (RR.out.at 4 rfl) (RowsAt.cons (RR.out.at 3 rfl) (RowsAt.cons (RR.out.at 1 rfl) (RowsAt.cons (RR.out.at 0 rfl) RowsAt.nil)))) (StOk.of [(w.heap.size + 1 + 1, Zr)] rfl (StM.cons (RR.out.at 2 rfl) (by omega) (Apart.cons (by omega) (Apart.cons (by omega) (Apart.cons (by omega) (Apart.cons (by omega) Apart.nil)))) Apart.nil StM.nil))
    (Obs.val (fun a' w' E => ob_loada 24 (.tmp 7) rfl (E.old 7 (by kernel_rfl)) (E.row (g := g2_6) (c := (Ar s_2)) 3 rfl) Tryd.underlying24 rfl (by kernel_rfl) rfl)
    (Obs.stk (fun a' w' E hr => ob_storea 24 (.tmp 4) (.tmp 26) rfl (E.old 4 (by kernel_rfl)) (E.new (v := (U s_2)) 26 0 (by kernel_rfl) rfl) rfl hr (by kernel_rfl) (Nat.le_of_ble_eq_true rfl) (by kernel_rfl) rfl)
    Obs.nil)) ?_
  intro bs w4 aZ haZ F
  have eZ : aZ = ({ tmps := #[(U x), (U y), (PT w.heap.size), (PT (w.heap.size + 1)), (PT (w.heap.size + 1 + 1)), (PT g1_6), (.bool false), (PT g2_6), (.bool false), (.tuple #[(U s_0), (.bool false)]), (U x), (U y), (.tuple #[(U s_0), (.bool false)]), (U s_0), (.bool false), (.tuple #[(U s_2), (.bool false)]), (U s_0), (U p_1), (.tuple #[(U s_2), (.bool false)]), (U s_2), (.bool false), (.bool false), (.bool false), (.bool false), (.bool true), (.bool true), (U s_2), undef], defers := [] } : Act) := haZ.trans (by kernel_rfl)
  subst eZ
  clear haZ
  replace RR : Hid (RB w w4 [(g2_6, (Ar s_2)), (g1_6, (Ar s_0)), (w.heap.size + 1 + 1, (Ar s_2)), (w.heap.size + 1, (Ar y)), (w.heap.size, (Ar x))]) := ⟨F.bw, (RowsAt.cons (F.row 3 rfl) (RowsAt.cons (F.row 2 rfl) (RowsAt.cons (F.sk 1 rfl) (RowsAt.cons (F.row 1 rfl) (RowsAt.cons (F.row 0 rfl) RowsAt.nil)))))⟩
  clear F qT q0 q1 q2 q3 q4
  go_wp2
  exact bodyPost_ret (v := (U s_2)) (resA (p := 4) (ty := 24) rfl (g := w.heap.size + 1 + 1) rfl (RR.out.at 2 rfl) Tryd.underlying24 rfl (by kernel_rfl)) rfl ⟨rfl, RR.out.b⟩
set_option maxRecDepth 100000 in
set_option maxHeartbeats 4000000 in
theorem rplus_un (x y : Nat) {s_0 p_1 s_2 : Nat}
    (c1 : Does 22 #[(U x), (U y)] (.tuple #[(U s_0), (.bool false)]))
    (c2 : Does 35 #[] (U p_1))
    (c3 : Does 19 #[(U s_0), (U p_1)] (.tuple #[(U s_2), (.bool true)]))
    (w : World) : Calls Tryd.prog 58 #[(U x), (U y)] w fun e w' => e = .returned (U s_0) ∧ Below w.heap.size w w' := by
  go_enter Tryd.func58, Tryd.ntmps58
  go_upto_region 1 with fail
  refine name_world _ ?_
  intro wF hF0
  have RR : Hid (RB w wF [(w.heap.size + 1 + 1, Zr), (w.heap.size + 1, (Ar y)), (w.heap.size, (Ar x))]) := by rw [hF0]; exact (rbN (rbN (rbN (rb0 w) (by simp)) (by simp)) (by simp))
  clear hF0
  obtain ⟨q2, q1, q0, qT⟩ := RR.out.r.lts
  refine wp_region_told (by kernel_rfl) (by kernel_rfl) (by kernel_rfl) [(w.heap.size, (Ar x)), (w.heap.size + 1, (Ar y)), (w.heap.size + 1 + 1, Zr)]
    [sV (U x),
     sV (U y),
     sV (.tuple #[(U s_0), (.bool false)]),
     sV (.tuple #[(U s_0), (.bool false)]),
     sV (U s_0),
     sV (.bool false),
     sA (fun g => .pointer (some ⟨g, 0, none⟩)) 7 Zr (Ar s_0),
     sS 6,
     sV (.bool false)]
    (by kernel_rfl) RR.out.b (RowsAt.cons (RR.out.at 2 rfl) (RowsAt.cons (RR.out.at 1 rfl) (RowsAt.cons (RR.out.at 0 rfl) RowsAt.nil))) (StOk.of [] rfl StM.nil)
    (Obs.val (fun a' w' E => ob_loada 24 (.tmp 2) rfl (E.old 2 (by kernel_rfl)) (E.row (g := w.heap.size) (c := (Ar x)) 0 rfl) Tryd.underlying24 rfl (by kernel_rfl) rfl)
    (Obs.val (fun a' w' E => ob_loada 24 (.tmp 3) rfl (E.old 3 (by kernel_rfl)) (E.row (g := w.heap.size + 1) (c := (Ar y)) 1 rfl) Tryd.underlying24 rfl (by kernel_rfl) rfl)
    (Obs.val (fun a' w' E => ob_fcall 22 _ _ rfl (am2 (E.new (v := (U x)) 10 0 (by kernel_rfl) rfl) (E.new (v := (U y)) 11 1 (by kernel_rfl) rfl)) (fc22 _ _) (c1.out w'))
    (Obs.val (fun a' w' E => ob_move (.tmp 12) rfl (E.new (v := (.tuple #[(U s_0), (.bool false)])) 12 2 (by kernel_rfl) rfl))
    (Obs.val (fun a' w' E => ob_extract (.tmp 9) 0 rfl (E.new (v := (.tuple #[(U s_0), (.bool false)])) 9 3 (by kernel_rfl) rfl) rfl)
    (Obs.val (fun a' w' E => ob_extract (.tmp 9) 1 rfl (E.new (v := (.tuple #[(U s_0), (.bool false)])) 9 3 (by kernel_rfl) rfl) rfl)
    (Obs.alloc (fun a' w' E => ob_alloc (t := 24) (by simp [opAt, execOp, go_sem]))
    (Obs.sta rfl (fun a' w' g E ha hr => ob_storea 24 (.tmp 5) (.tmp 13) rfl (ha 5 (by kernel_rfl)) (E.new (v := (U s_0)) 13 4 (by kernel_rfl) rfl) rfl hr (by kernel_rfl) (Nat.le_of_ble_eq_true rfl) (by kernel_rfl) rfl)
    (Obs.val (fun a' w' E => ob_assign (.tmp 14) rfl (E.new (v := (.bool false)) 14 5 (by kernel_rfl) rfl))
    Obs.nil))))))))) ?_
  intro bs w1 aZ haZ F
  have eZ : aZ = ({ tmps := #[(U x), (U y), (PT w.heap.size), (PT (w.heap.size + 1)), (PT (w.heap.size + 1 + 1)), (PT ((bs 6))), (.bool false), undef, undef, (.tuple #[(U s_0), (.bool false)]), (U x), (U y), (.tuple #[(U s_0), (.bool false)]), (U s_0), (.bool false), undef, undef, undef, undef, undef, undef, undef, undef, undef, undef, undef, undef, undef], defers := [] } : Act) := haZ.trans (by kernel_rfl)
  subst eZ
  clear haZ
  obtain ⟨h6, X6⟩ := F.al 6 rfl rfl
  replace RR : Hid (RB w w1 [((bs 6), (Ar s_0)), (w.heap.size + 1 + 1, Zr), (w.heap.size + 1, (Ar y)), (w.heap.size, (Ar x))]) := ⟨F.bw, (RowsAt.cons X6 (RowsAt.cons (F.row 2 rfl) (RowsAt.cons (F.row 1 rfl) (RowsAt.cons (F.row 0 rfl) RowsAt.nil))))⟩
  generalize bs 6 = g1_6 at *
  have k1_6_0 := Nat.lt_of_lt_of_le q0 h6
  have k1_6_1 := Nat.lt_of_lt_of_le q1 h6
  have k1_6_2 := Nat.lt_of_lt_of_le q2 h6
  clear F qT q0 q1 q2 h6 X6
  clear wF
  go_upto_region 2 with fail
  obtain ⟨q3, q2, q1, q0, qT⟩ := RR.out.r.lts
  refine wp_region_told (by kernel_rfl) (by kernel_rfl) (by kernel_rfl) [(w.heap.size, (Ar x)), (w.heap.size + 1, (Ar y)), (w.heap.size + 1 + 1, Zr), (g1_6, (Ar s_0))]
    [sV (U s_0),
     sV (U p_1),
     sV (.tuple #[(U s_2), (.bool true)]),
     sV (.tuple #[(U s_2), (.bool true)]),
     sV (U s_2),
     sV (.bool true),
     sA (fun g => .pointer (some ⟨g, 0, none⟩)) 7 Zr (Ar s_2),
     sS 6,
     sV (.bool true)]
    (by kernel_rfl) RR.out.b (RowsAt.cons (RR.out.at 3 rfl) (RowsAt.cons (RR.out.at 2 rfl) (RowsAt.cons (RR.out.at 1 rfl) (RowsAt.cons (RR.out.at 0 rfl) RowsAt.nil)))) (StOk.of [] rfl StM.nil)
    (Obs.val (fun a' w' E => ob_loada 24 (.tmp 5) rfl (E.old 5 (by kernel_rfl)) (E.row (g := g1_6) (c := (Ar s_0)) 3 rfl) Tryd.underlying24 rfl (by kernel_rfl) rfl)
    (Obs.val (fun a' w' E => ob_fcall 35 _ _ rfl (am0) (fc35 _ _) (c2.out w'))
    (Obs.val (fun a' w' E => ob_fcall 19 _ _ rfl (am2 (E.new (v := (U s_0)) 16 0 (by kernel_rfl) rfl) (E.new (v := (U p_1)) 17 1 (by kernel_rfl) rfl)) (fc19 _ _) (c3.out w'))
    (Obs.val (fun a' w' E => ob_move (.tmp 18) rfl (E.new (v := (.tuple #[(U s_2), (.bool true)])) 18 2 (by kernel_rfl) rfl))
    (Obs.val (fun a' w' E => ob_extract (.tmp 15) 0 rfl (E.new (v := (.tuple #[(U s_2), (.bool true)])) 15 3 (by kernel_rfl) rfl) rfl)
    (Obs.val (fun a' w' E => ob_extract (.tmp 15) 1 rfl (E.new (v := (.tuple #[(U s_2), (.bool true)])) 15 3 (by kernel_rfl) rfl) rfl)
    (Obs.alloc (fun a' w' E => ob_alloc (t := 24) (by simp [opAt, execOp, go_sem]))
    (Obs.sta rfl (fun a' w' g E ha hr => ob_storea 24 (.tmp 7) (.tmp 19) rfl (ha 7 (by kernel_rfl)) (E.new (v := (U s_2)) 19 4 (by kernel_rfl) rfl) rfl hr (by kernel_rfl) (Nat.le_of_ble_eq_true rfl) (by kernel_rfl) rfl)
    (Obs.val (fun a' w' E => ob_assign (.tmp 20) rfl (E.new (v := (.bool true)) 20 5 (by kernel_rfl) rfl))
    Obs.nil))))))))) ?_
  intro bs w2 aZ haZ F
  have eZ : aZ = ({ tmps := #[(U x), (U y), (PT w.heap.size), (PT (w.heap.size + 1)), (PT (w.heap.size + 1 + 1)), (PT g1_6), (.bool false), (PT ((bs 6))), (.bool true), (.tuple #[(U s_0), (.bool false)]), (U x), (U y), (.tuple #[(U s_0), (.bool false)]), (U s_0), (.bool false), (.tuple #[(U s_2), (.bool true)]), (U s_0), (U p_1), (.tuple #[(U s_2), (.bool true)]), (U s_2), (.bool true), undef, undef, undef, undef, undef, undef, undef], defers := [] } : Act) := haZ.trans (by kernel_rfl)
  subst eZ
  clear haZ
  obtain ⟨h6, X6⟩ := F.al 6 rfl rfl
  replace RR : Hid (RB w w2 [((bs 6), (Ar s_2)), (g1_6, (Ar s_0)), (w.heap.size + 1 + 1, Zr), (w.heap.size + 1, (Ar y)), (w.heap.size, (Ar x))]) := ⟨F.bw, (RowsAt.cons X6 (RowsAt.cons (F.row 3 rfl) (RowsAt.cons (F.row 2 rfl) (RowsAt.cons (F.row 1 rfl) (RowsAt.cons (F.row 0 rfl) RowsAt.nil)))))⟩
  generalize bs 6 = g2_6 at *
  have k2_6_0 := Nat.lt_of_lt_of_le q0 h6
  have k2_6_1 := Nat.lt_of_lt_of_le q1 h6
  have k2_6_2 := Nat.lt_of_lt_of_le q2 h6
  have k2_6_3 := Nat.lt_of_lt_of_le q3 h6
  clear F qT q0 q1 q2 q3 h6 X6
  go_upto_region 3 with fail
  obtain ⟨q4, q3, q2, q1, q0, qT⟩ := RR.out.r.lts
  refine wp_region_told (by kernel_rfl) (by kernel_rfl) (by kernel_rfl) [(w.heap.size, (Ar x)), (w.heap.size + 1, (Ar y)), (w.heap.size + 1 + 1, Zr), (g1_6, (Ar s_0)), (g2_6, (Ar s_2))]
    [sV (.bool false),
     sV (.bool false),
     sV (.bool true),
     sV (.bool false),
     sV (.bool false)]
    (by kernel_rfl) RR.out.b (RowsAt.cons (RR.out.at 4 rfl) (RowsAt.cons (RR.out.at 3 rfl) (RowsAt.cons (RR.out.at 2 rfl) (RowsAt.cons (RR.out.at 1 rfl) (RowsAt.cons (RR.out.at 0 rfl) RowsAt.nil))))) (StOk.of [] rfl StM.nil)
    (Obs.val (fun a' w' E => ob_move (.tmp 6) rfl (E.old 6 (by kernel_rfl)))
    (Obs.val (fun a' w' E => ob_move (.tmp 21) rfl (E.new (v := (.bool false)) 21 0 (by kernel_rfl) rfl))
    (Obs.gval rfl rfl (fun a' w' E => E.new 22 1 (by kernel_rfl) rfl) (fun a' w' E => ob_move (.tmp 8) rfl (E.old 8 (by kernel_rfl)))
    (Obs.gval rfl rfl (fun a' w' E => E.new 22 1 (by kernel_rfl) rfl) (fun a' w' E => ob_unOp .not 4 (.tmp 23) rfl (E.new (v := (.bool true)) 23 2 (by kernel_rfl) rfl) (by simp [go_sem]))
    (Obs.val (fun a' w' E => ob_pick (.tmp 22) (.const (.bool true)) (.tmp 24) rfl (E.new (v := (.bool false)) 22 1 (by kernel_rfl) rfl) (E.new (v := (.bool false)) 24 3 (by kernel_rfl) rfl))
    Obs.nil))))) ?_
  intro bs w3 aZ haZ F
  have eZ : aZ = ({ tmps := #[(U x), (U y), (PT w.heap.size), (PT (w.heap.size + 1)), (PT (w.heap.size + 1 + 1)), (PT g1_6), (.bool false), (PT g2_6), (.bool true), (.tuple #[(U s_0), (.bool false)]), (U x), (U y), (.tuple #[(U s_0), (.bool false)]), (U s_0), (.bool false), (.tuple #[(U s_2), (.bool true)]), (U s_0), (U p_1), (.tuple #[(U s_2), (.bool true)]), (U s_2), (.bool true), (.bool false), (.bool false), (.bool true), (.bool false), (.bool false), undef, undef], defers := [] } : Act) := haZ.trans (by kernel_rfl)
  subst eZ
  clear haZ
  replace RR : Hid (RB w w3 [(g2_6, (Ar s_2)), (g1_6, (Ar s_0)), (w.heap.size + 1 + 1, Zr), (w.heap.size + 1, (Ar y)), (w.heap.size, (Ar x))]) := ⟨F.bw, (RowsAt.cons (F.row 4 rfl) (RowsAt.cons (F.row 3 rfl) (RowsAt.cons (F.row 2 rfl) (RowsAt.cons (F.row 1 rfl) (RowsAt.cons (F.row 0 rfl) RowsAt.nil)))))⟩
  clear F qT q0 q1 q2 q3 q4
  go_upto_region 5 with fail
  obtain ⟨q4, q3, q2, q1, q0, qT⟩ := RR.out.r.lts
  refine wp_region_told (by kernel_rfl) (by kernel_rfl) (by kernel_rfl) [(w.heap.size, (Ar x)), (w.heap.size + 1, (Ar y)), (g1_6, (Ar s_0)), (g2_6, (Ar s_2))]
    [sV (U s_0),
     sK (w.heap.size + 1 + 1) Zr (Ar s_0)]
    (by kernel_rfl) RR.out.b (RowsAt.cons (RR.out.at 4 rfl) (RowsAt.cons (RR.out.at 3 rfl) (RowsAt.cons (RR.out.at 1 rfl) (RowsAt.cons (RR.out.at 0 rfl) RowsAt.nil)))) (StOk.of [(w.heap.size + 1 + 1, Zr)] rfl (StM.cons (RR.out.at 2 rfl) (by omega) (Apart.cons (by omega) (Apart.cons (by omega) (Apart.cons (by omega) (Apart.cons (by omega) Apart.nil)))) Apart.nil StM.nil))
    (Obs.val (fun a' w' E => ob_loada 24 (.tmp 5) rfl (E.old 5 (by kernel_rfl)) (E.row (g := g1_6) (c := (Ar s_0)) 2 rfl) Tryd.underlying24 rfl (by kernel_rfl) rfl)
    (Obs.stk (fun a' w' E hr => ob_storea 24 (.tmp 4) (.tmp 27) rfl (E.old 4 (by kernel_rfl)) (E.new (v := (U s_0)) 27 0 (by kernel_rfl) rfl) rfl hr (by kernel_rfl) (Nat.le_of_ble_eq_true rfl) (by kernel_rfl) rfl)
    Obs.nil)) ?_
  intro bs w4 aZ haZ F
  have eZ : aZ = ({ tmps := #[(U x), (U y), (PT w.heap.size), (PT (w.heap.size + 1)), (PT (w.heap.size + 1 + 1)), (PT g1_6), (.bool false), (PT g2_6), (.bool true), (.tuple #[(U s_0), (.bool false)]), (U x), (U y), (.tuple #[(U s_0), (.bool false)]), (U s_0), (.bool false), (.tuple #[(U s_2), (.bool true)]), (U s_0), (U p_1), (.tuple #[(U s_2), (.bool true)]), (U s_2), (.bool true), (.bool false), (.bool false), (.bool true), (.bool false), (.bool false), undef, (U s_0)], defers := [] } : Act) := haZ.trans (by kernel_rfl)
  subst eZ
  clear haZ
  replace RR : Hid (RB w w4 [(g2_6, (Ar s_2)), (g1_6, (Ar s_0)), (w.heap.size + 1 + 1, (Ar s_0)), (w.heap.size + 1, (Ar y)), (w.heap.size, (Ar x))]) := ⟨F.bw, (RowsAt.cons (F.row 3 rfl) (RowsAt.cons (F.row 2 rfl) (RowsAt.cons (F.sk 1 rfl) (RowsAt.cons (F.row 1 rfl) (RowsAt.cons (F.row 0 rfl) RowsAt.nil)))))⟩
  clear F qT q0 q1 q2 q3 q4
  go_wp2
  exact bodyPost_ret (v := (U s_0)) (resA (p := 4) (ty := 24) rfl (g := w.heap.size + 1 + 1) rfl (RR.out.at 2 rfl) Tryd.underlying24 rfl (by kernel_rfl)) rfl ⟨rfl, RR.out.b⟩
end Go.Proofs.YtpdoonofipcbeaaDoor
