/- Raw walks of the program's points, over letters. -/
import Derived.Test.YtpdoonofipcbeaaDoorXsAz
import Derived.Test.YtpdoonofipcbeaaDoorXsQc
import Derived.Test.YtpdoonofipcbeaaDoorXsEq
import Derived.WalkSmall
import Derived.Deep.Cut
import Derived.Deep.Light
namespace Go.Proofs.YtpdoonofipcbeaaDoor
open Go.RowKit Go.Sort
set_option linter.unusedVariables false
set_option maxRecDepth 100000 in
set_option maxHeartbeats 4000000 in
theorem prime_raw 
    (w : World) : Calls Tryd.prog 83 #[] w fun e w' => e = .returned (.agg #[.int .u64 18446744069414583343, .int .u64 18446744073709551615, .int .u64 18446744073709551615, .int .u64 18446744073709551615]) ∧ Below w.heap.size w w' := by
  go_enter Tryd.func83, Tryd.ntmps83
  go_upto_region 1 with fail
  refine name_world _ ?_
  intro wF hF0
  have RR : Hid (RB w wF [(w.heap.size, Zr)]) := by rw [hF0]; exact (rbN (rb0 w) (by simp))
  clear hF0
  obtain ⟨q0, qT⟩ := RR.out.r.lts
  refine wp_region_told (by kernel_rfl) (by kernel_rfl) (by kernel_rfl) []
    [sV (.agg #[.int .u64 18446744069414583343, .int .u64 18446744073709551615, .int .u64 18446744073709551615, .int .u64 18446744073709551615]),
     sK (w.heap.size) Zr #[.int .u64 18446744069414583343, .int .u64 18446744073709551615, .int .u64 18446744073709551615, .int .u64 18446744073709551615]]
    (by kernel_rfl) RR.out.b RowsAt.nil (StOk.of [(w.heap.size, Zr)] rfl (StM.cons (RR.out.at 0 rfl) (by omega) Apart.nil Apart.nil StM.nil))
    (Obs.val (fun a' w' E => ob_build 24 _ rfl (pm4 (evc a' (.int .u64 18446744069414583343)) (evc a' (.int .u64 18446744073709551615)) (evc a' (.int .u64 18446744073709551615)) (evc a' (.int .u64 18446744073709551615))) (bd24_0i_1i_2i_3i _ _ _ _ w'))
    (Obs.stk (fun a' w' E hr => ob_storea 24 (.tmp 0) (.tmp 1) rfl (E.old 0 (by kernel_rfl)) (E.new (v := (.agg #[.int .u64 18446744069414583343, .int .u64 18446744073709551615, .int .u64 18446744073709551615, .int .u64 18446744073709551615])) 1 0 (by kernel_rfl) rfl) rfl hr (by kernel_rfl) (Nat.le_of_ble_eq_true rfl) (by kernel_rfl) rfl)
    Obs.nil)) ?_
  intro bs w1 aZ haZ F
  have eZ : aZ = ({ tmps := #[(PT w.heap.size), (.agg #[.int .u64 18446744069414583343, .int .u64 18446744073709551615, .int .u64 18446744073709551615, .int .u64 18446744073709551615])], defers := [] } : Act) := haZ.trans (by kernel_rfl)
  subst eZ
  clear haZ
  replace RR : Hid (RB w w1 [(w.heap.size, #[.int .u64 18446744069414583343, .int .u64 18446744073709551615, .int .u64 18446744073709551615, .int .u64 18446744073709551615])]) := ⟨F.bw, (RowsAt.cons (F.sk 1 rfl) RowsAt.nil)⟩
  clear F qT q0
  clear wF
  go_wp2
  exact bodyPost_ret (v := (.agg #[.int .u64 18446744069414583343, .int .u64 18446744073709551615, .int .u64 18446744073709551615, .int .u64 18446744073709551615])) (resA (p := 0) (ty := 24) rfl (g := w.heap.size) rfl (RR.out.at 0 rfl) Tryd.underlying24 rfl (by kernel_rfl)) rfl ⟨rfl, RR.out.b⟩
set_option maxRecDepth 100000 in
set_option maxHeartbeats 4000000 in
theorem order_raw 
    (w : World) : Calls Tryd.prog 33 #[] w fun e w' => e = .returned (.agg #[.int .u64 13822214165235122497, .int .u64 13451932020343611451, .int .u64 18446744073709551614, .int .u64 18446744073709551615]) ∧ Below w.heap.size w w' := by
  go_enter Tryd.func33, Tryd.ntmps33
  go_upto_region 1 with fail
  refine name_world _ ?_
  intro wF hF0
  have RR : Hid (RB w wF [(w.heap.size, Zr)]) := by rw [hF0]; exact (rbN (rb0 w) (by simp))
  clear hF0
  obtain ⟨q0, qT⟩ := RR.out.r.lts
  refine wp_region_told (by kernel_rfl) (by kernel_rfl) (by kernel_rfl) []
    [sV (.agg #[.int .u64 13822214165235122497, .int .u64 13451932020343611451, .int .u64 18446744073709551614, .int .u64 18446744073709551615]),
     sK (w.heap.size) Zr #[.int .u64 13822214165235122497, .int .u64 13451932020343611451, .int .u64 18446744073709551614, .int .u64 18446744073709551615]]
    (by kernel_rfl) RR.out.b RowsAt.nil (StOk.of [(w.heap.size, Zr)] rfl (StM.cons (RR.out.at 0 rfl) (by omega) Apart.nil Apart.nil StM.nil))
    (Obs.val (fun a' w' E => ob_build 24 _ rfl (pm4 (evc a' (.int .u64 13822214165235122497)) (evc a' (.int .u64 13451932020343611451)) (evc a' (.int .u64 18446744073709551614)) (evc a' (.int .u64 18446744073709551615))) (bd24_0i_1i_2i_3i _ _ _ _ w'))
    (Obs.stk (fun a' w' E hr => ob_storea 24 (.tmp 0) (.tmp 1) rfl (E.old 0 (by kernel_rfl)) (E.new (v := (.agg #[.int .u64 13822214165235122497, .int .u64 13451932020343611451, .int .u64 18446744073709551614, .int .u64 18446744073709551615])) 1 0 (by kernel_rfl) rfl) rfl hr (by kernel_rfl) (Nat.le_of_ble_eq_true rfl) (by kernel_rfl) rfl)
    Obs.nil)) ?_
  intro bs w1 aZ haZ F
  have eZ : aZ = ({ tmps := #[(PT w.heap.size), (.agg #[.int .u64 13822214165235122497, .int .u64 13451932020343611451, .int .u64 18446744073709551614, .int .u64 18446744073709551615])], defers := [] } : Act) := haZ.trans (by kernel_rfl)
  subst eZ
  clear haZ
  replace RR : Hid (RB w w1 [(w.heap.size, #[.int .u64 13822214165235122497, .int .u64 13451932020343611451, .int .u64 18446744073709551614, .int .u64 18446744073709551615])]) := ⟨F.bw, (RowsAt.cons (F.sk 1 rfl) RowsAt.nil)⟩
  clear F qT q0
  clear wF
  go_wp2
  exact bodyPost_ret (v := (.agg #[.int .u64 13822214165235122497, .int .u64 13451932020343611451, .int .u64 18446744073709551614, .int .u64 18446744073709551615])) (resA (p := 0) (ty := 24) rfl (g := w.heap.size) rfl (RR.out.at 0 rfl) Tryd.underlying24 rfl (by kernel_rfl)) rfl ⟨rfl, RR.out.b⟩
set_option maxRecDepth 100000 in
set_option maxHeartbeats 4000000 in
theorem none_raw 
    (w : World) : Calls Tryd.prog 65 #[] w fun e w' => e = .returned (A9 0 0 true) ∧ Below w.heap.size w w' := by
  go_enter Tryd.func65, Tryd.ntmps65
  go_upto_region 1 with fail
  refine name_world _ ?_
  intro wF hF0
  have RR : Hid (RB w wF [(w.heap.size, Z9)]) := by rw [hF0]; exact (rbN (rb0 w) (by simp))
  clear hF0
  obtain ⟨q0, qT⟩ := RR.out.r.lts
  refine wp_region_told (by kernel_rfl) (by kernel_rfl) (by kernel_rfl) []
    [sV (A9 0 0 true),
     sK (w.heap.size) Z9 (P9 0 0 true)]
    (by kernel_rfl) RR.out.b RowsAt.nil (StOk.of [(w.heap.size, Z9)] rfl (StM.cons (RR.out.at 0 rfl) (by omega) Apart.nil Apart.nil StM.nil))
    (Obs.val (fun a' w' E => ob_build 26 _ rfl (pm1 (evc a' (.bool true))) (bd26_2b _ w'))
    (Obs.stk (fun a' w' E hr => ob_storea 26 (.tmp 0) (.tmp 1) rfl (E.old 0 (by kernel_rfl)) (E.new (v := (A9 0 0 true)) 1 0 (by kernel_rfl) rfl) rfl hr (by kernel_rfl) (Nat.le_of_ble_eq_true rfl) (by kernel_rfl) rfl)
    Obs.nil)) ?_
  intro bs w1 aZ haZ F
  have eZ : aZ = ({ tmps := #[(PT w.heap.size), (A9 0 0 true)], defers := [] } : Act) := haZ.trans (by kernel_rfl)
  subst eZ
  clear haZ
  replace RR : Hid (RB w w1 [(w.heap.size, (P9 0 0 true))]) := ⟨F.bw, (RowsAt.cons (F.sk 1 rfl) RowsAt.nil)⟩
  clear F qT q0
  clear wF
  go_wp2
  exact bodyPost_ret (v := (A9 0 0 true)) (resA (p := 0) (ty := 26) rfl (g := w.heap.size) rfl (RR.out.at 0 rfl) Tryd.underlying26 rfl (by kernel_rfl)) rfl ⟨rfl, RR.out.b⟩
set_option maxRecDepth 100000 in
set_option maxHeartbeats 4000000 in
theorem inverse_raw (x : Nat) {p_0 k_1 s_2 w_4 : Nat} {q_3 : Bool}
    (c1 : Does 83 #[] (U p_0))
    (c2 : Does 31 #[(.int .u64 2)] (U k_1))
    (c3 : Does 82 #[(U p_0), (U k_1)] (.tuple #[(U s_2), (.bool q_3)]))
    (c4 : Does 84 #[(U x), (U s_2)] (U w_4))
    (w : World) : Calls Tryd.prog 66 #[(U x)] w fun e w' => e = .returned (U w_4) ∧ Below w.heap.size w w' := by
  go_enter Tryd.func66, Tryd.ntmps66
  go_upto_region 1 with fail
  refine name_world _ ?_
  intro wF hF0
  have RR : Hid (RB w wF [(w.heap.size + 1, Zr), (w.heap.size, (Ar x))]) := by rw [hF0]; exact (rbN (rbN (rb0 w) (by simp)) (by simp))
  clear hF0
  obtain ⟨q1, q0, qT⟩ := RR.out.r.lts
  refine wp_region_told (by kernel_rfl) (by kernel_rfl) (by kernel_rfl) [(w.heap.size, (Ar x)), (w.heap.size + 1, Zr)]
    [sV (U p_0),
     sV (U k_1),
     sV (.tuple #[(U s_2), (.bool q_3)]),
     sV (.tuple #[(U s_2), (.bool q_3)]),
     sV (U s_2),
     sV (.bool q_3),
     sA (fun g => .pointer (some ⟨g, 0, none⟩)) 7 Zr (Ar s_2),
     sS 6,
     sV (.bool q_3)]
    (by kernel_rfl) RR.out.b (RowsAt.cons (RR.out.at 1 rfl) (RowsAt.cons (RR.out.at 0 rfl) RowsAt.nil)) (StOk.of [] rfl StM.nil)
    (Obs.val (fun a' w' E => ob_fcall 83 _ _ rfl (am0) (fc83 _ _) (c1.out w'))
    (Obs.val (fun a' w' E => ob_fcall 31 _ _ rfl (am1 (evc a' (.int .u64 2))) (fc31 _ _) (c2.out w'))
    (Obs.val (fun a' w' E => ob_fcall 82 _ _ rfl (am2 (E.new (v := (U p_0)) 6 0 (by kernel_rfl) rfl) (E.new (v := (U k_1)) 7 1 (by kernel_rfl) rfl)) (fc82 _ _) (c3.out w'))
    (Obs.val (fun a' w' E => ob_move (.tmp 8) rfl (E.new (v := (.tuple #[(U s_2), (.bool q_3)])) 8 2 (by kernel_rfl) rfl))
    (Obs.val (fun a' w' E => ob_extract (.tmp 5) 0 rfl (E.new (v := (.tuple #[(U s_2), (.bool q_3)])) 5 3 (by kernel_rfl) rfl) rfl)
    (Obs.val (fun a' w' E => ob_extract (.tmp 5) 1 rfl (E.new (v := (.tuple #[(U s_2), (.bool q_3)])) 5 3 (by kernel_rfl) rfl) rfl)
    (Obs.alloc (fun a' w' E => ob_alloc (t := 24) (by simp [opAt, execOp, go_sem]))
    (Obs.sta rfl (fun a' w' g E ha hr => ob_storea 24 (.tmp 3) (.tmp 9) rfl (ha 3 (by kernel_rfl)) (E.new (v := (U s_2)) 9 4 (by kernel_rfl) rfl) rfl hr (by kernel_rfl) (Nat.le_of_ble_eq_true rfl) (by kernel_rfl) rfl)
    (Obs.val (fun a' w' E => ob_assign (.tmp 10) rfl (E.new (v := (.bool q_3)) 10 5 (by kernel_rfl) rfl))
    Obs.nil))))))))) ?_
  intro bs w1 aZ haZ F
  have eZ : aZ = ({ tmps := #[(U x), (PT w.heap.size), (PT (w.heap.size + 1)), (PT ((bs 6))), (.bool q_3), (.tuple #[(U s_2), (.bool q_3)]), (U p_0), (U k_1), (.tuple #[(U s_2), (.bool q_3)]), (U s_2), (.bool q_3), undef, undef, undef], defers := [] } : Act) := haZ.trans (by kernel_rfl)
  subst eZ
  clear haZ
  obtain ⟨h6, X6⟩ := F.al 6 rfl rfl
  replace RR : Hid (RB w w1 [((bs 6), (Ar s_2)), (w.heap.size + 1, Zr), (w.heap.size, (Ar x))]) := ⟨F.bw, (RowsAt.cons X6 (RowsAt.cons (F.row 1 rfl) (RowsAt.cons (F.row 0 rfl) RowsAt.nil)))⟩
  generalize bs 6 = g1_6 at *
  have k1_6_0 := Nat.lt_of_lt_of_le q0 h6
  have k1_6_1 := Nat.lt_of_lt_of_le q1 h6
  clear F qT q0 q1 h6 X6
  clear wF
  go_upto_region 2 with fail
  obtain ⟨q2, q1, q0, qT⟩ := RR.out.r.lts
  refine wp_region_told (by kernel_rfl) (by kernel_rfl) (by kernel_rfl) [(w.heap.size, (Ar x)), (g1_6, (Ar s_2))]
    [sV (U x),
     sV (U s_2),
     sV (U w_4),
     sK (w.heap.size + 1) Zr (Ar w_4)]
    (by kernel_rfl) RR.out.b (RowsAt.cons (RR.out.at 2 rfl) (RowsAt.cons (RR.out.at 0 rfl) RowsAt.nil)) (StOk.of [(w.heap.size + 1, Zr)] rfl (StM.cons (RR.out.at 1 rfl) (by omega) (Apart.cons (by omega) (Apart.cons (by omega) Apart.nil)) Apart.nil StM.nil))
    (Obs.val (fun a' w' E => ob_loada 24 (.tmp 1) rfl (E.old 1 (by kernel_rfl)) (E.row (g := w.heap.size) (c := (Ar x)) 0 rfl) Tryd.underlying24 rfl (by kernel_rfl) rfl)
    (Obs.val (fun a' w' E => ob_loada 24 (.tmp 3) rfl (E.old 3 (by kernel_rfl)) (E.row (g := g1_6) (c := (Ar s_2)) 1 rfl) Tryd.underlying24 rfl (by kernel_rfl) rfl)
    (Obs.val (fun a' w' E => ob_fcall 84 _ _ rfl (am2 (E.new (v := (U x)) 11 0 (by kernel_rfl) rfl) (E.new (v := (U s_2)) 12 1 (by kernel_rfl) rfl)) (fc84 _ _) (c4.out w'))
    (Obs.stk (fun a' w' E hr => ob_storea 24 (.tmp 2) (.tmp 13) rfl (E.old 2 (by kernel_rfl)) (E.new (v := (U w_4)) 13 2 (by kernel_rfl) rfl) rfl hr (by kernel_rfl) (Nat.le_of_ble_eq_true rfl) (by kernel_rfl) rfl)
    Obs.nil)))) ?_
  intro bs w2 aZ haZ F
  have eZ : aZ = ({ tmps := #[(U x), (PT w.heap.size), (PT (w.heap.size + 1)), (PT g1_6), (.bool q_3), (.tuple #[(U s_2), (.bool q_3)]), (U p_0), (U k_1), (.tuple #[(U s_2), (.bool q_3)]), (U s_2), (.bool q_3), (U x), (U s_2), (U w_4)], defers := [] } : Act) := haZ.trans (by kernel_rfl)
  subst eZ
  clear haZ
  replace RR : Hid (RB w w2 [(g1_6, (Ar s_2)), (w.heap.size + 1, (Ar w_4)), (w.heap.size, (Ar x))]) := ⟨F.bw, (RowsAt.cons (F.row 1 rfl) (RowsAt.cons (F.sk 3 rfl) (RowsAt.cons (F.row 0 rfl) RowsAt.nil)))⟩
  clear F qT q0 q1 q2
  go_wp2
  exact bodyPost_ret (v := (U w_4)) (resA (p := 2) (ty := 24) rfl (g := w.heap.size + 1) rfl (RR.out.at 1 rfl) Tryd.underlying24 rfl (by kernel_rfl)) rfl ⟨rfl, RR.out.b⟩
set_option maxRecDepth 100000 in
set_option maxHeartbeats 4000000 in
theorem spread_none (x y : Nat)
    (c1 : Does 68 #[] (A3 0 1 0))
    (w : World) : Calls Tryd.prog 49 #[(A9 x y true)] w fun e w' => e = .returned (A3 0 1 0) ∧ Below w.heap.size w w' := by
  go_enter Tryd.func49, Tryd.ntmps49
  go_upto_region 1 with fail
  refine name_world _ ?_
  intro wF hF0
  have RR : Hid (RB w wF [(w.heap.size + 1, Z12), (w.heap.size, (P9 x y true))]) := by rw [hF0]; exact (rbN (rbN (rb0 w) (by simp)) (by simp))
  clear hF0
  obtain ⟨q1, q0, qT⟩ := RR.out.r.lts
  refine wp_region_told (by kernel_rfl) (by kernel_rfl) (by kernel_rfl) [(w.heap.size, (P9 x y true)), (w.heap.size + 1, Z12)]
    [sV (PO w.heap.size 8),
     sV (.bool true)]
    (by kernel_rfl) RR.out.b (RowsAt.cons (RR.out.at 1 rfl) (RowsAt.cons (RR.out.at 0 rfl) RowsAt.nil)) (StOk.of [] rfl StM.nil)
    (Obs.val (fun a' w' E => ob_fieldAddr 26 (.tmp 1) 2 rfl (E.old 1 (by kernel_rfl)) (fa26_2 _ _ w'))
    (Obs.val (fun a' w' E => ob_load1 4 (.tmp 3) rfl (E.new (v := (PO w.heap.size 8)) 3 0 (by kernel_rfl) rfl) (E.row (g := w.heap.size) (c := (P9 x y true)) 0 rfl) Tryd.underlying4 rfl rfl)
    Obs.nil)) ?_
  intro bs w1 aZ haZ F
  have eZ : aZ = ({ tmps := #[(A9 x y true), (PT w.heap.size), (PT (w.heap.size + 1)), (PO w.heap.size 8), (.bool true), undef, undef, undef, undef, undef, undef, undef], defers := [] } : Act) := haZ.trans (by kernel_rfl)
  subst eZ
  clear haZ
  replace RR : Hid (RB w w1 [(w.heap.size + 1, Z12), (w.heap.size, (P9 x y true))]) := ⟨F.bw, (RowsAt.cons (F.row 1 rfl) (RowsAt.cons (F.row 0 rfl) RowsAt.nil))⟩
  clear F qT q0 q1
  clear wF
  go_upto_region 2 with fail
  obtain ⟨q1, q0, qT⟩ := RR.out.r.lts
  refine wp_region_told (by kernel_rfl) (by kernel_rfl) (by kernel_rfl) [(w.heap.size, (P9 x y true))]
    [sV (A3 0 1 0),
     sK (w.heap.size + 1) Z12 (T3 0 1 0)]
    (by kernel_rfl) RR.out.b (RowsAt.cons (RR.out.at 1 rfl) RowsAt.nil) (StOk.of [(w.heap.size + 1, Z12)] rfl (StM.cons (RR.out.at 0 rfl) (by omega) (Apart.cons (by omega) Apart.nil) Apart.nil StM.nil))
    (Obs.val (fun a' w' E => ob_fcall 68 _ _ rfl (am0) (fc68 _ _) (c1.out w'))
    (Obs.stk (fun a' w' E hr => ob_storea 67 (.tmp 2) (.tmp 5) rfl (E.old 2 (by kernel_rfl)) (E.new (v := (A3 0 1 0)) 5 0 (by kernel_rfl) rfl) rfl hr (by kernel_rfl) (Nat.le_of_ble_eq_true rfl) (by kernel_rfl) rfl)
    Obs.nil)) ?_
  intro bs w2 aZ haZ F
  have eZ : aZ = ({ tmps := #[(A9 x y true), (PT w.heap.size), (PT (w.heap.size + 1)), (PO w.heap.size 8), (.bool true), (A3 0 1 0), undef, undef, undef, undef, undef, undef], defers := [] } : Act) := haZ.trans (by kernel_rfl)
  subst eZ
  clear haZ
  replace RR : Hid (RB w w2 [(w.heap.size + 1, (T3 0 1 0)), (w.heap.size, (P9 x y true))]) := ⟨F.bw, (RowsAt.cons (F.sk 1 rfl) (RowsAt.cons (F.row 0 rfl) RowsAt.nil))⟩
  clear F qT q0 q1
  go_wp2
  exact bodyPost_ret (v := (A3 0 1 0)) (resA (p := 2) (ty := 67) rfl (g := w.heap.size + 1) rfl (RR.out.at 0 rfl) Tryd.underlying67 rfl (by kernel_rfl)) rfl ⟨rfl, RR.out.b⟩
set_option maxRecDepth 100000 in
set_option maxHeartbeats 4000000 in
theorem point_none (x y z : Nat)
    (e1 : ∀ w, (Op.equalIn 10000 24 (U z) (U 0)).run Tryd.prog w = .ok true w)
    (c2 : Does 65 #[] (A9 0 0 true))
    (w : World) : Calls Tryd.prog 47 #[(A3 x y z)] w fun e w' => e = .returned (A9 0 0 true) ∧ Below w.heap.size w w' := by
  go_enter Tryd.func47, Tryd.ntmps47
  go_upto_region 1 with fail
  refine name_world _ ?_
  intro wF hF0
  have RR : Hid (RB w wF [(w.heap.size + 1, Z9), (w.heap.size, (T3 x y z))]) := by rw [hF0]; exact (rbN (rbN (rb0 w) (by simp)) (by simp))
  clear hF0
  obtain ⟨q1, q0, qT⟩ := RR.out.r.lts
  refine wp_region_told (by kernel_rfl) (by kernel_rfl) (by kernel_rfl) [(w.heap.size, (T3 x y z)), (w.heap.size + 1, Z9)]
    [sV (PO w.heap.size 8),
     sV (U z),
     sV (U 0),
     sV (.bool true)]
    (by kernel_rfl) RR.out.b (RowsAt.cons (RR.out.at 1 rfl) (RowsAt.cons (RR.out.at 0 rfl) RowsAt.nil)) (StOk.of [] rfl StM.nil)
    (Obs.val (fun a' w' E => ob_indexAddr 67 (.tmp 1) (.const (.int .i64 2)) rfl (E.old 1 (by kernel_rfl)) (evc a' (.int .i64 2)) (ix67_2 _ _ w'))
    (Obs.val (fun a' w' E => ob_loada 24 (.tmp 4) rfl (E.new (v := (PO w.heap.size 8)) 4 0 (by kernel_rfl) rfl) (E.row (g := w.heap.size) (c := (T3 x y z)) 0 rfl) Tryd.underlying24 rfl (by kernel_rfl) rfl)
    (Obs.val (fun a' w' E => ob_build 24 _ rfl (pm0) (bd24_ w'))
    (Obs.val (fun a' w' E => ob_binOp .eql 24 (.tmp 5) (.tmp 6) 24 rfl (E.new (v := (U z)) 5 1 (by kernel_rfl) rfl) (E.new (v := (U 0)) 6 2 (by kernel_rfl) rfl) (by simp [go_sem, e1]))
    Obs.nil)))) ?_
  intro bs w1 aZ haZ F
  have eZ : aZ = ({ tmps := #[(A3 x y z), (PT w.heap.size), (PT (w.heap.size + 1)), undef, (PO w.heap.size 8), (U z), (U 0), (.bool true), undef, undef, undef, undef, undef, undef, undef, undef, undef, undef, undef, undef, undef], defers := [] } : Act) := haZ.trans (by kernel_rfl)
  subst eZ
  clear haZ
  replace RR : Hid (RB w w1 [(w.heap.size + 1, Z9), (w.heap.size, (T3 x y z))]) := ⟨F.bw, (RowsAt.cons (F.row 1 rfl) (RowsAt.cons (F.row 0 rfl) RowsAt.nil))⟩
  clear F qT q0 q1
  clear wF
  go_upto_region 2 with fail
  obtain ⟨q1, q0, qT⟩ := RR.out.r.lts
  refine wp_region_told (by kernel_rfl) (by kernel_rfl) (by kernel_rfl) [(w.heap.size, (T3 x y z))]
    [sV (A9 0 0 true),
     sK (w.heap.size + 1) Z9 (P9 0 0 true)]
    (by kernel_rfl) RR.out.b (RowsAt.cons (RR.out.at 1 rfl) RowsAt.nil) (StOk.of [(w.heap.size + 1, Z9)] rfl (StM.cons (RR.out.at 0 rfl) (by omega) (Apart.cons (by omega) Apart.nil) Apart.nil StM.nil))
    (Obs.val (fun a' w' E => ob_fcall 65 _ _ rfl (am0) (fc65 _ _) (c2.out w'))
    (Obs.stk (fun a' w' E hr => ob_storea 26 (.tmp 2) (.tmp 8) rfl (E.old 2 (by kernel_rfl)) (E.new (v := (A9 0 0 true)) 8 0 (by kernel_rfl) rfl) rfl hr (by kernel_rfl) (Nat.le_of_ble_eq_true rfl) (by kernel_rfl) rfl)
    Obs.nil)) ?_
  intro bs w2 aZ haZ F
  have eZ : aZ = ({ tmps := #[(A3 x y z), (PT w.heap.size), (PT (w.heap.size + 1)), undef, (PO w.heap.size 8), (U z), (U 0), (.bool true), (A9 0 0 true), undef, undef, undef, undef, undef, undef, undef, undef, undef, undef, undef, undef], defers := [] } : Act) := haZ.trans (by kernel_rfl)
  subst eZ
  clear haZ
  replace RR : Hid (RB w w2 [(w.heap.size + 1, (P9 0 0 true)), (w.heap.size, (T3 x y z))]) := ⟨F.bw, (RowsAt.cons (F.sk 1 rfl) (RowsAt.cons (F.row 0 rfl) RowsAt.nil))⟩
  clear F qT q0 q1
  go_wp2
  exact bodyPost_ret (v := (A9 0 0 true)) (resA (p := 2) (ty := 26) rfl (g := w.heap.size + 1) rfl (RR.out.at 0 rfl) Tryd.underlying26 rfl (by kernel_rfl)) rfl ⟨rfl, RR.out.b⟩
set_option maxRecDepth 100000 in
set_option maxHeartbeats 4000000 in
theorem spread_some (x y : Nat) {k_0 : Nat}
    (c1 : Does 31 #[(.int .u64 1)] (U k_0))
    (w : World) : Calls Tryd.prog 49 #[(A9 x y false)] w fun e w' => e = .returned (A3 x y k_0) ∧ Below w.heap.size w w' := by
  go_enter Tryd.func49, Tryd.ntmps49
  go_upto_region 1 with fail
  refine name_world _ ?_
  intro wF hF0
  have RR : Hid (RB w wF [(w.heap.size + 1, Z12), (w.heap.size, (P9 x y false))]) := by rw [hF0]; exact (rbN (rbN (rb0 w) (by simp)) (by simp))
  clear hF0
  obtain ⟨q1, q0, qT⟩ := RR.out.r.lts
  refine wp_region_told (by kernel_rfl) (by kernel_rfl) (by kernel_rfl) [(w.heap.size, (P9 x y false)), (w.heap.size + 1, Z12)]
    [sV (PO w.heap.size 8),
     sV (.bool false)]
    (by kernel_rfl) RR.out.b (RowsAt.cons (RR.out.at 1 rfl) (RowsAt.cons (RR.out.at 0 rfl) RowsAt.nil)) (StOk.of [] rfl StM.nil)
    (Obs.val (fun a' w' E => ob_fieldAddr 26 (.tmp 1) 2 rfl (E.old 1 (by kernel_rfl)) (fa26_2 _ _ w'))
    (Obs.val (fun a' w' E => ob_load1 4 (.tmp 3) rfl (E.new (v := (PO w.heap.size 8)) 3 0 (by kernel_rfl) rfl) (E.row (g := w.heap.size) (c := (P9 x y false)) 0 rfl) Tryd.underlying4 rfl rfl)
    Obs.nil)) ?_
  intro bs w1 aZ haZ F
  have eZ : aZ = ({ tmps := #[(A9 x y false), (PT w.heap.size), (PT (w.heap.size + 1)), (PO w.heap.size 8), (.bool false), undef, undef, undef, undef, undef, undef, undef], defers := [] } : Act) := haZ.trans (by kernel_rfl)
  subst eZ
  clear haZ
  replace RR : Hid (RB w w1 [(w.heap.size + 1, Z12), (w.heap.size, (P9 x y false))]) := ⟨F.bw, (RowsAt.cons (F.row 1 rfl) (RowsAt.cons (F.row 0 rfl) RowsAt.nil))⟩
  clear F qT q0 q1
  clear wF
  go_upto_region 3 with fail
  obtain ⟨q1, q0, qT⟩ := RR.out.r.lts
  refine wp_region_told (by kernel_rfl) (by kernel_rfl) (by kernel_rfl) [(w.heap.size, (P9 x y false))]
    [sV (PT w.heap.size),
     sV (U x),
     sV (PO w.heap.size 4),
     sV (U y),
     sV (U k_0),
     sV (A3 x y k_0),
     sK (w.heap.size + 1) Z12 (T3 x y k_0)]
    (by kernel_rfl) RR.out.b (RowsAt.cons (RR.out.at 1 rfl) RowsAt.nil) (StOk.of [(w.heap.size + 1, Z12)] rfl (StM.cons (RR.out.at 0 rfl) (by omega) (Apart.cons (by omega) Apart.nil) Apart.nil StM.nil))
    (Obs.val (fun a' w' E => ob_fieldAddr 26 (.tmp 1) 0 rfl (E.old 1 (by kernel_rfl)) (fa26_0 _ _ w'))
    (Obs.val (fun a' w' E => ob_loada 24 (.tmp 6) rfl (E.new (v := (PT w.heap.size)) 6 0 (by kernel_rfl) rfl) (E.row (g := w.heap.size) (c := (P9 x y false)) 0 rfl) Tryd.underlying24 rfl (by kernel_rfl) rfl)
    (Obs.val (fun a' w' E => ob_fieldAddr 26 (.tmp 1) 1 rfl (E.old 1 (by kernel_rfl)) (fa26_1 _ _ w'))
    (Obs.val (fun a' w' E => ob_loada 24 (.tmp 8) rfl (E.new (v := (PO w.heap.size 4)) 8 2 (by kernel_rfl) rfl) (E.row (g := w.heap.size) (c := (P9 x y false)) 0 rfl) Tryd.underlying24 rfl (by kernel_rfl) rfl)
    (Obs.val (fun a' w' E => ob_fcall 31 _ _ rfl (am1 (evc a' (.int .u64 1))) (fc31 _ _) (c1.out w'))
    (Obs.val (fun a' w' E => ob_build 67 _ rfl (pm3 (E.new (v := (U x)) 7 1 (by kernel_rfl) rfl) (E.new (v := (U y)) 9 3 (by kernel_rfl) rfl) (E.new (v := (U k_0)) 10 4 (by kernel_rfl) rfl)) (bd67_0U_1U_2U _ _ _ w'))
    (Obs.stk (fun a' w' E hr => ob_storea 67 (.tmp 2) (.tmp 11) rfl (E.old 2 (by kernel_rfl)) (E.new (v := (A3 x y k_0)) 11 5 (by kernel_rfl) rfl) rfl hr (by kernel_rfl) (Nat.le_of_ble_eq_true rfl) (by kernel_rfl) rfl)
    Obs.nil))))))) ?_
  intro bs w2 aZ haZ F
  have eZ : aZ = ({ tmps := #[(A9 x y false), (PT w.heap.size), (PT (w.heap.size + 1)), (PO w.heap.size 8), (.bool false), undef, (PT w.heap.size), (U x), (PO w.heap.size 4), (U y), (U k_0), (A3 x y k_0)], defers := [] } : Act) := haZ.trans (by kernel_rfl)
  subst eZ
  clear haZ
  replace RR : Hid (RB w w2 [(w.heap.size + 1, (T3 x y k_0)), (w.heap.size, (P9 x y false))]) := ⟨F.bw, (RowsAt.cons (F.sk 6 rfl) (RowsAt.cons (F.row 0 rfl) RowsAt.nil))⟩
  clear F qT q0 q1
  go_wp2
  exact bodyPost_ret (v := (A3 x y k_0)) (resA (p := 2) (ty := 67) rfl (g := w.heap.size + 1) rfl (RR.out.at 0 rfl) Tryd.underlying67 rfl (by kernel_rfl)) rfl ⟨rfl, RR.out.b⟩
set_option maxRecDepth 100000 in
set_option maxHeartbeats 4000000 in
theorem point_some (x y z : Nat) {v_0 m_1 m_2 : Nat}
    (e1 : ∀ w, (Op.equalIn 10000 24 (U z) (U 0)).run Tryd.prog w = .ok false w)
    (c2 : Does 66 #[(U z)] (U v_0))
    (c3 : Does 67 #[(U x), (U v_0)] (U m_1))
    (c4 : Does 67 #[(U y), (U v_0)] (U m_2))
    (w : World) : Calls Tryd.prog 47 #[(A3 x y z)] w fun e w' => e = .returned (A9 m_1 m_2 false) ∧ Below w.heap.size w w' := by
  go_enter Tryd.func47, Tryd.ntmps47
  go_upto_region 1 with fail
  refine name_world _ ?_
  intro wF hF0
  have RR : Hid (RB w wF [(w.heap.size + 1, Z9), (w.heap.size, (T3 x y z))]) := by rw [hF0]; exact (rbN (rbN (rb0 w) (by simp)) (by simp))
  clear hF0
  obtain ⟨q1, q0, qT⟩ := RR.out.r.lts
  refine wp_region_told (by kernel_rfl) (by kernel_rfl) (by kernel_rfl) [(w.heap.size, (T3 x y z)), (w.heap.size + 1, Z9)]
    [sV (PO w.heap.size 8),
     sV (U z),
     sV (U 0),
     sV (.bool false)]
    (by kernel_rfl) RR.out.b (RowsAt.cons (RR.out.at 1 rfl) (RowsAt.cons (RR.out.at 0 rfl) RowsAt.nil)) (StOk.of [] rfl StM.nil)
    (Obs.val (fun a' w' E => ob_indexAddr 67 (.tmp 1) (.const (.int .i64 2)) rfl (E.old 1 (by kernel_rfl)) (evc a' (.int .i64 2)) (ix67_2 _ _ w'))
    (Obs.val (fun a' w' E => ob_loada 24 (.tmp 4) rfl (E.new (v := (PO w.heap.size 8)) 4 0 (by kernel_rfl) rfl) (E.row (g := w.heap.size) (c := (T3 x y z)) 0 rfl) Tryd.underlying24 rfl (by kernel_rfl) rfl)
    (Obs.val (fun a' w' E => ob_build 24 _ rfl (pm0) (bd24_ w'))
    (Obs.val (fun a' w' E => ob_binOp .eql 24 (.tmp 5) (.tmp 6) 24 rfl (E.new (v := (U z)) 5 1 (by kernel_rfl) rfl) (E.new (v := (U 0)) 6 2 (by kernel_rfl) rfl) (by simp [go_sem, e1]))
    Obs.nil)))) ?_
  intro bs w1 aZ haZ F
  have eZ : aZ = ({ tmps := #[(A3 x y z), (PT w.heap.size), (PT (w.heap.size + 1)), undef, (PO w.heap.size 8), (U z), (U 0), (.bool false), undef, undef, undef, undef, undef, undef, undef, undef, undef, undef, undef, undef, undef], defers := [] } : Act) := haZ.trans (by kernel_rfl)
  subst eZ
  clear haZ
  replace RR : Hid (RB w w1 [(w.heap.size + 1, Z9), (w.heap.size, (T3 x y z))]) := ⟨F.bw, (RowsAt.cons (F.row 1 rfl) (RowsAt.cons (F.row 0 rfl) RowsAt.nil))⟩
  clear F qT q0 q1
  clear wF
  go_upto_region 3 with fail
  obtain ⟨q1, q0, qT⟩ := RR.out.r.lts
  refine wp_region_told (by kernel_rfl) (by kernel_rfl) (by kernel_rfl) [(w.heap.size, (T3 x y z)), (w.heap.size + 1, Z9)]
    [sV (PO w.heap.size 8),
     sV (U z),
     sV (U v_0),
     sA (fun g => .pointer (some ⟨g, 0, none⟩)) 4 Zr (Ar v_0),
     sS 3]
    (by kernel_rfl) RR.out.b (RowsAt.cons (RR.out.at 1 rfl) (RowsAt.cons (RR.out.at 0 rfl) RowsAt.nil)) (StOk.of [] rfl StM.nil)
    (Obs.val (fun a' w' E => ob_indexAddr 67 (.tmp 1) (.const (.int .i64 2)) rfl (E.old 1 (by kernel_rfl)) (evc a' (.int .i64 2)) (ix67_2 _ _ w'))
    (Obs.val (fun a' w' E => ob_loada 24 (.tmp 9) rfl (E.new (v := (PO w.heap.size 8)) 9 0 (by kernel_rfl) rfl) (E.row (g := w.heap.size) (c := (T3 x y z)) 0 rfl) Tryd.underlying24 rfl (by kernel_rfl) rfl)
    (Obs.val (fun a' w' E => ob_fcall 66 _ _ rfl (am1 (E.new (v := (U z)) 10 1 (by kernel_rfl) rfl)) (fc66 _ _) (c2.out w'))
    (Obs.alloc (fun a' w' E => ob_alloc (t := 24) (by simp [opAt, execOp, go_sem]))
    (Obs.sta rfl (fun a' w' g E ha hr => ob_storea 24 (.tmp 3) (.tmp 11) rfl (ha 3 (by kernel_rfl)) (E.new (v := (U v_0)) 11 2 (by kernel_rfl) rfl) rfl hr (by kernel_rfl) (Nat.le_of_ble_eq_true rfl) (by kernel_rfl) rfl)
    Obs.nil))))) ?_
  intro bs w2 aZ haZ F
  have eZ : aZ = ({ tmps := #[(A3 x y z), (PT w.heap.size), (PT (w.heap.size + 1)), (PT ((bs 3))), (PO w.heap.size 8), (U z), (U 0), (.bool false), undef, (PO w.heap.size 8), (U z), (U v_0), undef, undef, undef, undef, undef, undef, undef, undef, undef], defers := [] } : Act) := haZ.trans (by kernel_rfl)
  subst eZ
  clear haZ
  obtain ⟨h3, X3⟩ := F.al 3 rfl rfl
  replace RR : Hid (RB w w2 [((bs 3), (Ar v_0)), (w.heap.size + 1, Z9), (w.heap.size, (T3 x y z))]) := ⟨F.bw, (RowsAt.cons X3 (RowsAt.cons (F.row 1 rfl) (RowsAt.cons (F.row 0 rfl) RowsAt.nil)))⟩
  generalize bs 3 = g2_3 at *
  have k2_3_0 := Nat.lt_of_lt_of_le q0 h3
  have k2_3_1 := Nat.lt_of_lt_of_le q1 h3
  clear F qT q0 q1 h3 X3
  go_upto_region 4 with fail
  obtain ⟨q2, q1, q0, qT⟩ := RR.out.r.lts
  refine wp_region_told (by kernel_rfl) (by kernel_rfl) (by kernel_rfl) [(w.heap.size, (T3 x y z)), (g2_3, (Ar v_0))]
    [sV (PT w.heap.size),
     sV (U x),
     sV (U v_0),
     sV (U m_1),
     sV (PO w.heap.size 4),
     sV (U y),
     sV (U v_0),
     sV (U m_2),
     sV (A9 m_1 m_2 false),
     sK (w.heap.size + 1) Z9 (P9 m_1 m_2 false)]
    (by kernel_rfl) RR.out.b (RowsAt.cons (RR.out.at 2 rfl) (RowsAt.cons (RR.out.at 0 rfl) RowsAt.nil)) (StOk.of [(w.heap.size + 1, Z9)] rfl (StM.cons (RR.out.at 1 rfl) (by omega) (Apart.cons (by omega) (Apart.cons (by omega) Apart.nil)) Apart.nil StM.nil))
    (Obs.val (fun a' w' E => ob_indexAddr 67 (.tmp 1) (.const (.int .i64 0)) rfl (E.old 1 (by kernel_rfl)) (evc a' (.int .i64 0)) (ix67_0 _ _ w'))
    (Obs.val (fun a' w' E => ob_loada 24 (.tmp 12) rfl (E.new (v := (PT w.heap.size)) 12 0 (by kernel_rfl) rfl) (E.row (g := w.heap.size) (c := (T3 x y z)) 0 rfl) Tryd.underlying24 rfl (by kernel_rfl) rfl)
    (Obs.val (fun a' w' E => ob_loada 24 (.tmp 3) rfl (E.old 3 (by kernel_rfl)) (E.row (g := g2_3) (c := (Ar v_0)) 1 rfl) Tryd.underlying24 rfl (by kernel_rfl) rfl)
    (Obs.val (fun a' w' E => ob_fcall 67 _ _ rfl (am2 (E.new (v := (U x)) 13 1 (by kernel_rfl) rfl) (E.new (v := (U v_0)) 14 2 (by kernel_rfl) rfl)) (fc67 _ _) (c3.out w'))
    (Obs.val (fun a' w' E => ob_indexAddr 67 (.tmp 1) (.const (.int .i64 1)) rfl (E.old 1 (by kernel_rfl)) (evc a' (.int .i64 1)) (ix67_1 _ _ w'))
    (Obs.val (fun a' w' E => ob_loada 24 (.tmp 16) rfl (E.new (v := (PO w.heap.size 4)) 16 4 (by kernel_rfl) rfl) (E.row (g := w.heap.size) (c := (T3 x y z)) 0 rfl) Tryd.underlying24 rfl (by kernel_rfl) rfl)
    (Obs.val (fun a' w' E => ob_loada 24 (.tmp 3) rfl (E.old 3 (by kernel_rfl)) (E.row (g := g2_3) (c := (Ar v_0)) 1 rfl) Tryd.underlying24 rfl (by kernel_rfl) rfl)
    (Obs.val (fun a' w' E => ob_fcall 67 _ _ rfl (am2 (E.new (v := (U y)) 17 5 (by kernel_rfl) rfl) (E.new (v := (U v_0)) 18 6 (by kernel_rfl) rfl)) (fc67 _ _) (c4.out w'))
    (Obs.val (fun a' w' E => ob_build 26 _ rfl (pm2 (E.new (v := (U m_1)) 15 3 (by kernel_rfl) rfl) (E.new (v := (U m_2)) 19 7 (by kernel_rfl) rfl)) (bd26_0U_1U _ _ w'))
    (Obs.stk (fun a' w' E hr => ob_storea 26 (.tmp 2) (.tmp 20) rfl (E.old 2 (by kernel_rfl)) (E.new (v := (A9 m_1 m_2 false)) 20 8 (by kernel_rfl) rfl) rfl hr (by kernel_rfl) (Nat.le_of_ble_eq_true rfl) (by kernel_rfl) rfl)
    Obs.nil)))))))))) ?_
  intro bs w3 aZ haZ F
  have eZ : aZ = ({ tmps := #[(A3 x y z), (PT w.heap.size), (PT (w.heap.size + 1)), (PT g2_3), (PO w.heap.size 8), (U z), (U 0), (.bool false), undef, (PO w.heap.size 8), (U z), (U v_0), (PT w.heap.size), (U x), (U v_0), (U m_1), (PO w.heap.size 4), (U y), (U v_0), (U m_2), (A9 m_1 m_2 false)], defers := [] } : Act) := haZ.trans (by kernel_rfl)
  subst eZ
  clear haZ
  replace RR : Hid (RB w w3 [(g2_3, (Ar v_0)), (w.heap.size + 1, (P9 m_1 m_2 false)), (w.heap.size, (T3 x y z))]) := ⟨F.bw, (RowsAt.cons (F.row 1 rfl) (RowsAt.cons (F.sk 9 rfl) (RowsAt.cons (F.row 0 rfl) RowsAt.nil)))⟩
  clear F qT q0 q1 q2
  go_wp2
  exact bodyPost_ret (v := (A9 m_1 m_2 false)) (resA (p := 2) (ty := 26) rfl (g := w.heap.size + 1) rfl (RR.out.at 1 rfl) Tryd.underlying26 rfl (by kernel_rfl)) rfl ⟨rfl, RR.out.b⟩
set_option maxRecDepth 100000 in
set_option maxHeartbeats 4000000 in
theorem nought_raw  {k_0 : Nat}
    (c1 : Does 31 #[(.int .u64 1)] (U k_0))
    (w : World) : Calls Tryd.prog 68 #[] w fun e w' => e = .returned (A3 0 k_0 0) ∧ Below w.heap.size w w' := by
  go_enter Tryd.func68, Tryd.ntmps68
  go_upto_region 1 with fail
  refine name_world _ ?_
  intro wF hF0
  have RR : Hid (RB w wF [(w.heap.size, Z12)]) := by rw [hF0]; exact (rbN (rb0 w) (by simp))
  clear hF0
  obtain ⟨q0, qT⟩ := RR.out.r.lts
  refine wp_region_told (by kernel_rfl) (by kernel_rfl) (by kernel_rfl) []
    [sV (U 0),
     sV (U k_0),
     sV (U 0),
     sV (A3 0 k_0 0),
     sK (w.heap.size) Z12 (T3 0 k_0 0)]
    (by kernel_rfl) RR.out.b RowsAt.nil (StOk.of [(w.heap.size, Z12)] rfl (StM.cons (RR.out.at 0 rfl) (by omega) Apart.nil Apart.nil StM.nil))
    (Obs.val (fun a' w' E => ob_build 24 _ rfl (pm0) (bd24_ w'))
    (Obs.val (fun a' w' E => ob_fcall 31 _ _ rfl (am1 (evc a' (.int .u64 1))) (fc31 _ _) (c1.out w'))
    (Obs.val (fun a' w' E => ob_build 24 _ rfl (pm0) (bd24_ w'))
    (Obs.val (fun a' w' E => ob_build 67 _ rfl (pm3 (E.new (v := (U 0)) 1 0 (by kernel_rfl) rfl) (E.new (v := (U k_0)) 2 1 (by kernel_rfl) rfl) (E.new (v := (U 0)) 3 2 (by kernel_rfl) rfl)) (bd67_0U_1U_2U _ _ _ w'))
    (Obs.stk (fun a' w' E hr => ob_storea 67 (.tmp 0) (.tmp 4) rfl (E.old 0 (by kernel_rfl)) (E.new (v := (A3 0 k_0 0)) 4 3 (by kernel_rfl) rfl) rfl hr (by kernel_rfl) (Nat.le_of_ble_eq_true rfl) (by kernel_rfl) rfl)
    Obs.nil))))) ?_
  intro bs w1 aZ haZ F
  have eZ : aZ = ({ tmps := #[(PT w.heap.size), (U 0), (U k_0), (U 0), (A3 0 k_0 0)], defers := [] } : Act) := haZ.trans (by kernel_rfl)
  subst eZ
  clear haZ
  replace RR : Hid (RB w w1 [(w.heap.size, (T3 0 k_0 0))]) := ⟨F.bw, (RowsAt.cons (F.sk 4 rfl) RowsAt.nil)⟩
  clear F qT q0
  clear wF
  go_wp2
  exact bodyPost_ret (v := (A3 0 k_0 0)) (resA (p := 0) (ty := 67) rfl (g := w.heap.size) rfl (RR.out.at 0 rfl) Tryd.underlying67 rfl (by kernel_rfl)) rfl ⟨rfl, RR.out.b⟩
set_option maxRecDepth 100000 in
set_option maxHeartbeats 4000000 in
theorem mul_pt_raw (k x1 y1 : Nat) (n1 : Bool) {x_0 y_1 z_2 x_3 y_4 z_5 x_6 y_7 : Nat} {n_8 : Bool}
    (c1 : Does 49 #[(A9 x1 y1 n1)] (A3 x_0 y_1 z_2))
    (c2 : Does 48 #[(U k), (A3 x_0 y_1 z_2)] (A3 x_3 y_4 z_5))
    (c3 : Does 47 #[(A3 x_3 y_4 z_5)] (A9 x_6 y_7 n_8))
    (w : World) : Calls Tryd.prog 25 #[(U k), (A9 x1 y1 n1)] w fun e w' => e = .returned (A9 x_6 y_7 n_8) ∧ Below w.heap.size w w' := by
  go_enter Tryd.func25, Tryd.ntmps25
  go_upto_region 1 with fail
  refine name_world _ ?_
  intro wF hF0
  have RR : Hid (RB w wF [(w.heap.size + 1 + 1, Z9), (w.heap.size + 1, (P9 x1 y1 n1)), (w.heap.size, (Ar k))]) := by rw [hF0]; exact (rbN (rbN (rbN (rb0 w) (by simp)) (by simp)) (by simp))
  clear hF0
  obtain ⟨q2, q1, q0, qT⟩ := RR.out.r.lts
  refine wp_region_told (by kernel_rfl) (by kernel_rfl) (by kernel_rfl) [(w.heap.size, (Ar k)), (w.heap.size + 1, (P9 x1 y1 n1))]
    [sV (U k),
     sV (A9 x1 y1 n1),
     sV (A3 x_0 y_1 z_2),
     sV (A3 x_3 y_4 z_5),
     sV (A9 x_6 y_7 n_8),
     sK (w.heap.size + 1 + 1) Z9 (P9 x_6 y_7 n_8)]
    (by kernel_rfl) RR.out.b (RowsAt.cons (RR.out.at 2 rfl) (RowsAt.cons (RR.out.at 1 rfl) RowsAt.nil)) (StOk.of [(w.heap.size + 1 + 1, Z9)] rfl (StM.cons (RR.out.at 0 rfl) (by omega) (Apart.cons (by omega) (Apart.cons (by omega) Apart.nil)) Apart.nil StM.nil))
    (Obs.val (fun a' w' E => ob_loada 24 (.tmp 2) rfl (E.old 2 (by kernel_rfl)) (E.row (g := w.heap.size) (c := (Ar k)) 0 rfl) Tryd.underlying24 rfl (by kernel_rfl) rfl)
    (Obs.val (fun a' w' E => ob_loada 26 (.tmp 3) rfl (E.old 3 (by kernel_rfl)) (E.row (g := w.heap.size + 1) (c := (P9 x1 y1 n1)) 1 rfl) Tryd.underlying26 rfl (by kernel_rfl) rfl)
    (Obs.val (fun a' w' E => ob_fcall 49 _ _ rfl (am1 (E.new (v := (A9 x1 y1 n1)) 6 1 (by kernel_rfl) rfl)) (fc49 _ _) (c1.out w'))
    (Obs.val (fun a' w' E => ob_fcall 48 _ _ rfl (am2 (E.new (v := (U k)) 5 0 (by kernel_rfl) rfl) (E.new (v := (A3 x_0 y_1 z_2)) 7 2 (by kernel_rfl) rfl)) (fc48 _ _) (c2.out w'))
    (Obs.val (fun a' w' E => ob_fcall 47 _ _ rfl (am1 (E.new (v := (A3 x_3 y_4 z_5)) 8 3 (by kernel_rfl) rfl)) (fc47 _ _) (c3.out w'))
    (Obs.stk (fun a' w' E hr => ob_storea 26 (.tmp 4) (.tmp 9) rfl (E.old 4 (by kernel_rfl)) (E.new (v := (A9 x_6 y_7 n_8)) 9 4 (by kernel_rfl) rfl) rfl hr (by kernel_rfl) (Nat.le_of_ble_eq_true rfl) (by kernel_rfl) rfl)
    Obs.nil)))))) ?_
  intro bs w1 aZ haZ F
  have eZ : aZ = ({ tmps := #[(U k), (A9 x1 y1 n1), (PT w.heap.size), (PT (w.heap.size + 1)), (PT (w.heap.size + 1 + 1)), (U k), (A9 x1 y1 n1), (A3 x_0 y_1 z_2), (A3 x_3 y_4 z_5), (A9 x_6 y_7 n_8)], defers := [] } : Act) := haZ.trans (by kernel_rfl)
  subst eZ
  clear haZ
  replace RR : Hid (RB w w1 [(w.heap.size + 1 + 1, (P9 x_6 y_7 n_8)), (w.heap.size + 1, (P9 x1 y1 n1)), (w.heap.size, (Ar k))]) := ⟨F.bw, (RowsAt.cons (F.sk 5 rfl) (RowsAt.cons (F.row 1 rfl) (RowsAt.cons (F.row 0 rfl) RowsAt.nil)))⟩
  clear F qT q0 q1 q2
  clear wF
  go_wp2
  exact bodyPost_ret (v := (A9 x_6 y_7 n_8)) (resA (p := 4) (ty := 26) rfl (g := w.heap.size + 1 + 1) rfl (RR.out.at 0 rfl) Tryd.underlying26 rfl (by kernel_rfl)) rfl ⟨rfl, RR.out.b⟩
set_option maxRecDepth 100000 in
set_option maxHeartbeats 4000000 in
theorem crossed_raw (a b c d e : Nat) {a_0 a_1 m_2 d_3 : Nat}
    (c1 : Does 89 #[(U a), (U b)] (U a_0))
    (c2 : Does 89 #[(U c), (U d)] (U a_1))
    (c3 : Does 67 #[(U a_0), (U a_1)] (U m_2))
    (c4 : Does 90 #[(U m_2), (U e)] (U d_3))
    (w : World) : Calls Tryd.prog 88 #[(U a), (U b), (U c), (U d), (U e)] w fun e w' => e = .returned (U d_3) ∧ Below w.heap.size w w' := by
  go_enter Tryd.func88, Tryd.ntmps88
  go_upto_region 1 with fail
  refine name_world _ ?_
  intro wF hF0
  have RR : Hid (RB w wF [(w.heap.size + 1 + 1 + 1 + 1 + 1, Zr), (w.heap.size + 1 + 1 + 1 + 1, (Ar e)), (w.heap.size + 1 + 1 + 1, (Ar d)), (w.heap.size + 1 + 1, (Ar c)), (w.heap.size + 1, (Ar b)), (w.heap.size, (Ar a))]) := by rw [hF0]; exact (rbN (rbN (rbN (rbN (rbN (rbN (rb0 w) (by simp)) (by simp)) (by simp)) (by simp)) (by simp)) (by simp))
  clear hF0
  obtain ⟨q5, q4, q3, q2, q1, q0, qT⟩ := RR.out.r.lts
  refine wp_region_told (by kernel_rfl) (by kernel_rfl) (by kernel_rfl) [(w.heap.size, (Ar a)), (w.heap.size + 1, (Ar b)), (w.heap.size + 1 + 1, (Ar c)), (w.heap.size + 1 + 1 + 1, (Ar d)), (w.heap.size + 1 + 1 + 1 + 1, (Ar e))]
    [sV (U a),
     sV (U b),
     sV (U a_0),
     sV (U c),
     sV (U d),
     sV (U a_1),
     sV (U m_2),
     sV (U e),
     sV (U d_3),
     sK (w.heap.size + 1 + 1 + 1 + 1 + 1) Zr (Ar d_3)]
    (by kernel_rfl) RR.out.b (RowsAt.cons (RR.out.at 5 rfl) (RowsAt.cons (RR.out.at 4 rfl) (RowsAt.cons (RR.out.at 3 rfl) (RowsAt.cons (RR.out.at 2 rfl) (RowsAt.cons (RR.out.at 1 rfl) RowsAt.nil))))) (StOk.of [(w.heap.size + 1 + 1 + 1 + 1 + 1, Zr)] rfl (StM.cons (RR.out.at 0 rfl) (by omega) (Apart.cons (by omega) (Apart.cons (by omega) (Apart.cons (by omega) (Apart.cons (by omega) (Apart.cons (by omega) Apart.nil))))) Apart.nil StM.nil))
    (Obs.val (fun a' w' E => ob_loada 24 (.tmp 5) rfl (E.old 5 (by kernel_rfl)) (E.row (g := w.heap.size) (c := (Ar a)) 0 rfl) Tryd.underlying24 rfl (by kernel_rfl) rfl)
    (Obs.val (fun a' w' E => ob_loada 24 (.tmp 6) rfl (E.old 6 (by kernel_rfl)) (E.row (g := w.heap.size + 1) (c := (Ar b)) 1 rfl) Tryd.underlying24 rfl (by kernel_rfl) rfl)
    (Obs.val (fun a' w' E => ob_fcall 89 _ _ rfl (am2 (E.new (v := (U a)) 11 0 (by kernel_rfl) rfl) (E.new (v := (U b)) 12 1 (by kernel_rfl) rfl)) (fc89 _ _) (c1.out w'))
    (Obs.val (fun a' w' E => ob_loada 24 (.tmp 7) rfl (E.old 7 (by kernel_rfl)) (E.row (g := w.heap.size + 1 + 1) (c := (Ar c)) 2 rfl) Tryd.underlying24 rfl (by kernel_rfl) rfl)
    (Obs.val (fun a' w' E => ob_loada 24 (.tmp 8) rfl (E.old 8 (by kernel_rfl)) (E.row (g := w.heap.size + 1 + 1 + 1) (c := (Ar d)) 3 rfl) Tryd.underlying24 rfl (by kernel_rfl) rfl)
    (Obs.val (fun a' w' E => ob_fcall 89 _ _ rfl (am2 (E.new (v := (U c)) 14 3 (by kernel_rfl) rfl) (E.new (v := (U d)) 15 4 (by kernel_rfl) rfl)) (fc89 _ _) (c2.out w'))
    (Obs.val (fun a' w' E => ob_fcall 67 _ _ rfl (am2 (E.new (v := (U a_0)) 13 2 (by kernel_rfl) rfl) (E.new (v := (U a_1)) 16 5 (by kernel_rfl) rfl)) (fc67 _ _) (c3.out w'))
    (Obs.val (fun a' w' E => ob_loada 24 (.tmp 9) rfl (E.old 9 (by kernel_rfl)) (E.row (g := w.heap.size + 1 + 1 + 1 + 1) (c := (Ar e)) 4 rfl) Tryd.underlying24 rfl (by kernel_rfl) rfl)
    (Obs.val (fun a' w' E => ob_fcall 90 _ _ rfl (am2 (E.new (v := (U m_2)) 17 6 (by kernel_rfl) rfl) (E.new (v := (U e)) 18 7 (by kernel_rfl) rfl)) (fc90 _ _) (c4.out w'))
    (Obs.stk (fun a' w' E hr => ob_storea 24 (.tmp 10) (.tmp 19) rfl (E.old 10 (by kernel_rfl)) (E.new (v := (U d_3)) 19 8 (by kernel_rfl) rfl) rfl hr (by kernel_rfl) (Nat.le_of_ble_eq_true rfl) (by kernel_rfl) rfl)
    Obs.nil)))))))))) ?_
  intro bs w1 aZ haZ F
  have eZ : aZ = ({ tmps := #[(U a), (U b), (U c), (U d), (U e), (PT w.heap.size), (PT (w.heap.size + 1)), (PT (w.heap.size + 1 + 1)), (PT (w.heap.size + 1 + 1 + 1)), (PT (w.heap.size + 1 + 1 + 1 + 1)), (PT (w.heap.size + 1 + 1 + 1 + 1 + 1)), (U a), (U b), (U a_0), (U c), (U d), (U a_1), (U m_2), (U e), (U d_3)], defers := [] } : Act) := haZ.trans (by kernel_rfl)
  subst eZ
  clear haZ
  replace RR : Hid (RB w w1 [(w.heap.size + 1 + 1 + 1 + 1 + 1, (Ar d_3)), (w.heap.size + 1 + 1 + 1 + 1, (Ar e)), (w.heap.size + 1 + 1 + 1, (Ar d)), (w.heap.size + 1 + 1, (Ar c)), (w.heap.size + 1, (Ar b)), (w.heap.size, (Ar a))]) := ⟨F.bw, (RowsAt.cons (F.sk 9 rfl) (RowsAt.cons (F.row 4 rfl) (RowsAt.cons (F.row 3 rfl) (RowsAt.cons (F.row 2 rfl) (RowsAt.cons (F.row 1 rfl) (RowsAt.cons (F.row 0 rfl) RowsAt.nil))))))⟩
  clear F qT q0 q1 q2 q3 q4 q5
  clear wF
  go_wp2
  exact bodyPost_ret (v := (U d_3)) (resA (p := 10) (ty := 24) rfl (g := w.heap.size + 1 + 1 + 1 + 1 + 1) rfl (RR.out.at 0 rfl) Tryd.underlying24 rfl (by kernel_rfl)) rfl ⟨rfl, RR.out.b⟩
set_option maxRecDepth 100000 in
set_option maxHeartbeats 4000000 in
theorem joined_raw (x1 y1 z1 x2 y2 z2 : Nat) {m_0 m_1 m_2 a_3 x_4 a_5 x_6 a_7 x_8 a_9 a_10 k_11 m_12 m_13 a_14 d_15 m_16 m_17 d_18 m_19 m_20 a_21 m_22 m_23 a_24 : Nat}
    (c1 : Does 67 #[(U x1), (U x2)] (U m_0))
    (c2 : Does 67 #[(U y1), (U y2)] (U m_1))
    (c3 : Does 67 #[(U z1), (U z2)] (U m_2))
    (c4 : Does 89 #[(U m_0), (U m_1)] (U a_3))
    (c5 : Does 88 #[(U x1), (U y1), (U x2), (U y2), (U a_3)] (U x_4))
    (c6 : Does 89 #[(U m_1), (U m_2)] (U a_5))
    (c7 : Does 88 #[(U y1), (U z1), (U y2), (U z2), (U a_5)] (U x_6))
    (c8 : Does 89 #[(U m_0), (U m_2)] (U a_7))
    (c9 : Does 88 #[(U x1), (U z1), (U x2), (U z2), (U a_7)] (U x_8))
    (c10 : Does 89 #[(U m_0), (U m_0)] (U a_9))
    (c11 : Does 89 #[(U m_0), (U a_9)] (U a_10))
    (c12 : Does 31 #[(.int .u64 21)] (U k_11))
    (c13 : Does 67 #[(U k_11), (U m_2)] (U m_12))
    (c14 : Does 67 #[(U k_11), (U x_8)] (U m_13))
    (c15 : Does 89 #[(U m_1), (U m_12)] (U a_14))
    (c16 : Does 90 #[(U m_1), (U m_12)] (U d_15))
    (c17 : Does 67 #[(U x_4), (U d_15)] (U m_16))
    (c18 : Does 67 #[(U x_6), (U m_13)] (U m_17))
    (c19 : Does 90 #[(U m_16), (U m_17)] (U d_18))
    (c20 : Does 67 #[(U a_14), (U d_15)] (U m_19))
    (c21 : Does 67 #[(U a_10), (U m_13)] (U m_20))
    (c22 : Does 89 #[(U m_19), (U m_20)] (U a_21))
    (c23 : Does 67 #[(U x_6), (U a_14)] (U m_22))
    (c24 : Does 67 #[(U a_10), (U x_4)] (U m_23))
    (c25 : Does 89 #[(U m_22), (U m_23)] (U a_24))
    (w : World) : Calls Tryd.prog 72 #[(A3 x1 y1 z1), (A3 x2 y2 z2)] w fun e w' => e = .returned (A3 d_18 a_21 a_24) ∧ Below w.heap.size w w' := by
  go_enter Tryd.func72, Tryd.ntmps72
  go_upto_region 1 with fail
  refine name_world _ ?_
  intro wF hF0
  have RR : Hid (RB w wF [(w.heap.size + 1 + 1, Z12), (w.heap.size + 1, (T3 x2 y2 z2)), (w.heap.size, (T3 x1 y1 z1))]) := by rw [hF0]; exact (rbN (rbN (rbN (rb0 w) (by simp)) (by simp)) (by simp))
  clear hF0
  obtain ⟨q2, q1, q0, qT⟩ := RR.out.r.lts
  refine wp_region_told (by kernel_rfl) (by kernel_rfl) (by kernel_rfl) [(w.heap.size, (T3 x1 y1 z1)), (w.heap.size + 1, (T3 x2 y2 z2)), (w.heap.size + 1 + 1, Z12)]
    [sV (PT w.heap.size),
     sV (U x1),
     sV (PT (w.heap.size + 1)),
     sV (U x2),
     sV (U m_0),
     sV (PO w.heap.size 4),
     sV (U y1),
     sV (PO (w.heap.size + 1) 4),
     sV (U y2),
     sV (U m_1),
     sV (PO w.heap.size 8),
     sV (U z1),
     sV (PO (w.heap.size + 1) 8),
     sV (U z2),
     sV (U m_2),
     sA (fun g => .pointer (some ⟨g, 0, none⟩)) 18 Zr (Ar m_0),
     sA (fun g => .pointer (some ⟨g, 0, none⟩)) 19 Zr (Ar m_1),
     sA (fun g => .pointer (some ⟨g, 0, none⟩)) 20 Zr (Ar m_2),
     sS 15,
     sS 16,
     sS 17]
    (by kernel_rfl) RR.out.b (RowsAt.cons (RR.out.at 2 rfl) (RowsAt.cons (RR.out.at 1 rfl) (RowsAt.cons (RR.out.at 0 rfl) RowsAt.nil))) (StOk.of [] rfl StM.nil)
    (Obs.val (fun a' w' E => ob_indexAddr 67 (.tmp 2) (.const (.int .i64 0)) rfl (E.old 2 (by kernel_rfl)) (evc a' (.int .i64 0)) (ix67_0 _ _ w'))
    (Obs.val (fun a' w' E => ob_loada 24 (.tmp 13) rfl (E.new (v := (PT w.heap.size)) 13 0 (by kernel_rfl) rfl) (E.row (g := w.heap.size) (c := (T3 x1 y1 z1)) 0 rfl) Tryd.underlying24 rfl (by kernel_rfl) rfl)
    (Obs.val (fun a' w' E => ob_indexAddr 67 (.tmp 3) (.const (.int .i64 0)) rfl (E.old 3 (by kernel_rfl)) (evc a' (.int .i64 0)) (ix67_0 _ _ w'))
    (Obs.val (fun a' w' E => ob_loada 24 (.tmp 15) rfl (E.new (v := (PT (w.heap.size + 1))) 15 2 (by kernel_rfl) rfl) (E.row (g := w.heap.size + 1) (c := (T3 x2 y2 z2)) 1 rfl) Tryd.underlying24 rfl (by kernel_rfl) rfl)
    (Obs.val (fun a' w' E => ob_fcall 67 _ _ rfl (am2 (E.new (v := (U x1)) 14 1 (by kernel_rfl) rfl) (E.new (v := (U x2)) 16 3 (by kernel_rfl) rfl)) (fc67 _ _) (c1.out w'))
    (Obs.val (fun a' w' E => ob_indexAddr 67 (.tmp 2) (.const (.int .i64 1)) rfl (E.old 2 (by kernel_rfl)) (evc a' (.int .i64 1)) (ix67_1 _ _ w'))
    (Obs.val (fun a' w' E => ob_loada 24 (.tmp 18) rfl (E.new (v := (PO w.heap.size 4)) 18 5 (by kernel_rfl) rfl) (E.row (g := w.heap.size) (c := (T3 x1 y1 z1)) 0 rfl) Tryd.underlying24 rfl (by kernel_rfl) rfl)
    (Obs.val (fun a' w' E => ob_indexAddr 67 (.tmp 3) (.const (.int .i64 1)) rfl (E.old 3 (by kernel_rfl)) (evc a' (.int .i64 1)) (ix67_1 _ _ w'))
    (Obs.val (fun a' w' E => ob_loada 24 (.tmp 20) rfl (E.new (v := (PO (w.heap.size + 1) 4)) 20 7 (by kernel_rfl) rfl) (E.row (g := w.heap.size + 1) (c := (T3 x2 y2 z2)) 1 rfl) Tryd.underlying24 rfl (by kernel_rfl) rfl)
    (Obs.val (fun a' w' E => ob_fcall 67 _ _ rfl (am2 (E.new (v := (U y1)) 19 6 (by kernel_rfl) rfl) (E.new (v := (U y2)) 21 8 (by kernel_rfl) rfl)) (fc67 _ _) (c2.out w'))
    (Obs.val (fun a' w' E => ob_indexAddr 67 (.tmp 2) (.const (.int .i64 2)) rfl (E.old 2 (by kernel_rfl)) (evc a' (.int .i64 2)) (ix67_2 _ _ w'))
    (Obs.val (fun a' w' E => ob_loada 24 (.tmp 23) rfl (E.new (v := (PO w.heap.size 8)) 23 10 (by kernel_rfl) rfl) (E.row (g := w.heap.size) (c := (T3 x1 y1 z1)) 0 rfl) Tryd.underlying24 rfl (by kernel_rfl) rfl)
    (Obs.val (fun a' w' E => ob_indexAddr 67 (.tmp 3) (.const (.int .i64 2)) rfl (E.old 3 (by kernel_rfl)) (evc a' (.int .i64 2)) (ix67_2 _ _ w'))
    (Obs.val (fun a' w' E => ob_loada 24 (.tmp 25) rfl (E.new (v := (PO (w.heap.size + 1) 8)) 25 12 (by kernel_rfl) rfl) (E.row (g := w.heap.size + 1) (c := (T3 x2 y2 z2)) 1 rfl) Tryd.underlying24 rfl (by kernel_rfl) rfl)
    (Obs.val (fun a' w' E => ob_fcall 67 _ _ rfl (am2 (E.new (v := (U z1)) 24 11 (by kernel_rfl) rfl) (E.new (v := (U z2)) 26 13 (by kernel_rfl) rfl)) (fc67 _ _) (c3.out w'))
    (Obs.alloc (fun a' w' E => ob_alloc (t := 24) (by simp [opAt, execOp, go_sem]))
    (Obs.alloc (fun a' w' E => ob_alloc (t := 24) (by simp [opAt, execOp, go_sem]))
    (Obs.alloc (fun a' w' E => ob_alloc (t := 24) (by simp [opAt, execOp, go_sem]))
    (Obs.sta rfl (fun a' w' g E ha hr => ob_storea 24 (.tmp 5) (.tmp 17) rfl (ha 5 (by kernel_rfl)) (E.new (v := (U m_0)) 17 4 (by kernel_rfl) rfl) rfl hr (by kernel_rfl) (Nat.le_of_ble_eq_true rfl) (by kernel_rfl) rfl)
    (Obs.sta rfl (fun a' w' g E ha hr => ob_storea 24 (.tmp 6) (.tmp 22) rfl (ha 6 (by kernel_rfl)) (E.new (v := (U m_1)) 22 9 (by kernel_rfl) rfl) rfl hr (by kernel_rfl) (Nat.le_of_ble_eq_true rfl) (by kernel_rfl) rfl)
    (Obs.sta rfl (fun a' w' g E ha hr => ob_storea 24 (.tmp 7) (.tmp 27) rfl (ha 7 (by kernel_rfl)) (E.new (v := (U m_2)) 27 14 (by kernel_rfl) rfl) rfl hr (by kernel_rfl) (Nat.le_of_ble_eq_true rfl) (by kernel_rfl) rfl)
    Obs.nil))))))))))))))))))))) ?_
  intro bs w1 aZ haZ F
  have eZ : aZ = ({ tmps := #[(A3 x1 y1 z1), (A3 x2 y2 z2), (PT w.heap.size), (PT (w.heap.size + 1)), (PT (w.heap.size + 1 + 1)), (PT ((bs 15))), (PT ((bs 16))), (PT ((bs 17))), undef, undef, undef, undef, undef, (PT w.heap.size), (U x1), (PT (w.heap.size + 1)), (U x2), (U m_0), (PO w.heap.size 4), (U y1), (PO (w.heap.size + 1) 4), (U y2), (U m_1), (PO w.heap.size 8), (U z1), (PO (w.heap.size + 1) 8), (U z2), (U m_2), undef, undef, undef, undef, undef, undef, undef, undef, undef, undef, undef, undef, undef, undef, undef, undef, undef, undef, undef, undef, undef, undef, undef, undef, undef, undef, undef, undef, undef, undef, undef, undef, undef, undef, undef, undef, undef, undef, undef, undef, undef, undef, undef, undef, undef, undef, undef, undef, undef, undef, undef, undef, undef, undef, undef, undef, undef, undef, undef, undef, undef, undef, undef, undef, undef, undef, undef, undef, undef, undef, undef, undef, undef, undef, undef], defers := [] } : Act) := haZ.trans (by kernel_rfl)
  subst eZ
  clear haZ
  obtain ⟨h15, X15⟩ := F.al 15 rfl rfl
  obtain ⟨h16, X16⟩ := F.al 16 rfl rfl
  obtain ⟨h17, X17⟩ := F.al 17 rfl rfl
  have n1_15_16 := F.ne 15 16 (by decide) rfl rfl
  have n1_15_17 := F.ne 15 17 (by decide) rfl rfl
  have n1_16_17 := F.ne 16 17 (by decide) rfl rfl
  replace RR : Hid (RB w w1 [((bs 17), (Ar m_2)), ((bs 16), (Ar m_1)), ((bs 15), (Ar m_0)), (w.heap.size + 1 + 1, Z12), (w.heap.size + 1, (T3 x2 y2 z2)), (w.heap.size, (T3 x1 y1 z1))]) := ⟨F.bw, (RowsAt.cons X17 (RowsAt.cons X16 (RowsAt.cons X15 (RowsAt.cons (F.row 2 rfl) (RowsAt.cons (F.row 1 rfl) (RowsAt.cons (F.row 0 rfl) RowsAt.nil))))))⟩
  generalize bs 15 = g1_15 at *
  generalize bs 16 = g1_16 at *
  generalize bs 17 = g1_17 at *
  have k1_15_0 := Nat.lt_of_lt_of_le q0 h15
  have k1_15_1 := Nat.lt_of_lt_of_le q1 h15
  have k1_15_2 := Nat.lt_of_lt_of_le q2 h15
  have k1_16_0 := Nat.lt_of_lt_of_le q0 h16
  have k1_16_1 := Nat.lt_of_lt_of_le q1 h16
  have k1_16_2 := Nat.lt_of_lt_of_le q2 h16
  have k1_17_0 := Nat.lt_of_lt_of_le q0 h17
  have k1_17_1 := Nat.lt_of_lt_of_le q1 h17
  have k1_17_2 := Nat.lt_of_lt_of_le q2 h17
  clear F qT q0 q1 q2 h15 X15 h16 X16 h17 X17
  clear wF
  go_upto_region 2 with fail
  obtain ⟨q5, q4, q3, q2, q1, q0, qT⟩ := RR.out.r.lts
  refine wp_region_told (by kernel_rfl) (by kernel_rfl) (by kernel_rfl) [(w.heap.size, (T3 x1 y1 z1)), (w.heap.size + 1, (T3 x2 y2 z2)), (w.heap.size + 1 + 1, Z12), (g1_15, (Ar m_0)), (g1_16, (Ar m_1)), (g1_17, (Ar m_2))]
    [sV (PT w.heap.size),
     sV (U x1),
     sV (PO w.heap.size 4),
     sV (U y1),
     sV (PT (w.heap.size + 1)),
     sV (U x2),
     sV (PO (w.heap.size + 1) 4),
     sV (U y2),
     sV (U m_0),
     sV (U m_1),
     sV (U a_3),
     sV (U x_4),
     sA (fun g => .pointer (some ⟨g, 0, none⟩)) 13 Zr (Ar x_4),
     sS 12]
    (by kernel_rfl) RR.out.b (RowsAt.cons (RR.out.at 5 rfl) (RowsAt.cons (RR.out.at 4 rfl) (RowsAt.cons (RR.out.at 3 rfl) (RowsAt.cons (RR.out.at 2 rfl) (RowsAt.cons (RR.out.at 1 rfl) (RowsAt.cons (RR.out.at 0 rfl) RowsAt.nil)))))) (StOk.of [] rfl StM.nil)
    (Obs.val (fun a' w' E => ob_indexAddr 67 (.tmp 2) (.const (.int .i64 0)) rfl (E.old 2 (by kernel_rfl)) (evc a' (.int .i64 0)) (ix67_0 _ _ w'))
    (Obs.val (fun a' w' E => ob_loada 24 (.tmp 28) rfl (E.new (v := (PT w.heap.size)) 28 0 (by kernel_rfl) rfl) (E.row (g := w.heap.size) (c := (T3 x1 y1 z1)) 0 rfl) Tryd.underlying24 rfl (by kernel_rfl) rfl)
    (Obs.val (fun a' w' E => ob_indexAddr 67 (.tmp 2) (.const (.int .i64 1)) rfl (E.old 2 (by kernel_rfl)) (evc a' (.int .i64 1)) (ix67_1 _ _ w'))
    (Obs.val (fun a' w' E => ob_loada 24 (.tmp 30) rfl (E.new (v := (PO w.heap.size 4)) 30 2 (by kernel_rfl) rfl) (E.row (g := w.heap.size) (c := (T3 x1 y1 z1)) 0 rfl) Tryd.underlying24 rfl (by kernel_rfl) rfl)
    (Obs.val (fun a' w' E => ob_indexAddr 67 (.tmp 3) (.const (.int .i64 0)) rfl (E.old 3 (by kernel_rfl)) (evc a' (.int .i64 0)) (ix67_0 _ _ w'))
    (Obs.val (fun a' w' E => ob_loada 24 (.tmp 32) rfl (E.new (v := (PT (w.heap.size + 1))) 32 4 (by kernel_rfl) rfl) (E.row (g := w.heap.size + 1) (c := (T3 x2 y2 z2)) 1 rfl) Tryd.underlying24 rfl (by kernel_rfl) rfl)
    (Obs.val (fun a' w' E => ob_indexAddr 67 (.tmp 3) (.const (.int .i64 1)) rfl (E.old 3 (by kernel_rfl)) (evc a' (.int .i64 1)) (ix67_1 _ _ w'))
    (Obs.val (fun a' w' E => ob_loada 24 (.tmp 34) rfl (E.new (v := (PO (w.heap.size + 1) 4)) 34 6 (by kernel_rfl) rfl) (E.row (g := w.heap.size + 1) (c := (T3 x2 y2 z2)) 1 rfl) Tryd.underlying24 rfl (by kernel_rfl) rfl)
    (Obs.val (fun a' w' E => ob_loada 24 (.tmp 5) rfl (E.old 5 (by kernel_rfl)) (E.row (g := g1_15) (c := (Ar m_0)) 3 rfl) Tryd.underlying24 rfl (by kernel_rfl) rfl)
    (Obs.val (fun a' w' E => ob_loada 24 (.tmp 6) rfl (E.old 6 (by kernel_rfl)) (E.row (g := g1_16) (c := (Ar m_1)) 4 rfl) Tryd.underlying24 rfl (by kernel_rfl) rfl)
    (Obs.val (fun a' w' E => ob_fcall 89 _ _ rfl (am2 (E.new (v := (U m_0)) 36 8 (by kernel_rfl) rfl) (E.new (v := (U m_1)) 37 9 (by kernel_rfl) rfl)) (fc89 _ _) (c4.out w'))
    (Obs.val (fun a' w' E => ob_fcall 88 _ _ rfl (am5 (E.new (v := (U x1)) 29 1 (by kernel_rfl) rfl) (E.new (v := (U y1)) 31 3 (by kernel_rfl) rfl) (E.new (v := (U x2)) 33 5 (by kernel_rfl) rfl) (E.new (v := (U y2)) 35 7 (by kernel_rfl) rfl) (E.new (v := (U a_3)) 38 10 (by kernel_rfl) rfl)) (fc88 _ _) (c5.out w'))
    (Obs.alloc (fun a' w' E => ob_alloc (t := 24) (by simp [opAt, execOp, go_sem]))
    (Obs.sta rfl (fun a' w' g E ha hr => ob_storea 24 (.tmp 8) (.tmp 39) rfl (ha 8 (by kernel_rfl)) (E.new (v := (U x_4)) 39 11 (by kernel_rfl) rfl) rfl hr (by kernel_rfl) (Nat.le_of_ble_eq_true rfl) (by kernel_rfl) rfl)
    Obs.nil)))))))))))))) ?_
  intro bs w2 aZ haZ F
  have eZ : aZ = ({ tmps := #[(A3 x1 y1 z1), (A3 x2 y2 z2), (PT w.heap.size), (PT (w.heap.size + 1)), (PT (w.heap.size + 1 + 1)), (PT g1_15), (PT g1_16), (PT g1_17), (PT ((bs 12))), undef, undef, undef, undef, (PT w.heap.size), (U x1), (PT (w.heap.size + 1)), (U x2), (U m_0), (PO w.heap.size 4), (U y1), (PO (w.heap.size + 1) 4), (U y2), (U m_1), (PO w.heap.size 8), (U z1), (PO (w.heap.size + 1) 8), (U z2), (U m_2), (PT w.heap.size), (U x1), (PO w.heap.size 4), (U y1), (PT (w.heap.size + 1)), (U x2), (PO (w.heap.size + 1) 4), (U y2), (U m_0), (U m_1), (U a_3), (U x_4), undef, undef, undef, undef, undef, undef, undef, undef, undef, undef, undef, undef, undef, undef, undef, undef, undef, undef, undef, undef, undef, undef, undef, undef, undef, undef, undef, undef, undef, undef, undef, undef, undef, undef, undef, undef, undef, undef, undef, undef, undef, undef, undef, undef, undef, undef, undef, undef, undef, undef, undef, undef, undef, undef, undef, undef, undef, undef, undef, undef, undef, undef, undef], defers := [] } : Act) := haZ.trans (by kernel_rfl)
  subst eZ
  clear haZ
  obtain ⟨h12, X12⟩ := F.al 12 rfl rfl
  replace RR : Hid (RB w w2 [((bs 12), (Ar x_4)), (g1_17, (Ar m_2)), (g1_16, (Ar m_1)), (g1_15, (Ar m_0)), (w.heap.size + 1 + 1, Z12), (w.heap.size + 1, (T3 x2 y2 z2)), (w.heap.size, (T3 x1 y1 z1))]) := ⟨F.bw, (RowsAt.cons X12 (RowsAt.cons (F.row 5 rfl) (RowsAt.cons (F.row 4 rfl) (RowsAt.cons (F.row 3 rfl) (RowsAt.cons (F.row 2 rfl) (RowsAt.cons (F.row 1 rfl) (RowsAt.cons (F.row 0 rfl) RowsAt.nil)))))))⟩
  generalize bs 12 = g2_12 at *
  have k2_12_0 := Nat.lt_of_lt_of_le q0 h12
  have k2_12_1 := Nat.lt_of_lt_of_le q1 h12
  have k2_12_2 := Nat.lt_of_lt_of_le q2 h12
  have k2_12_3 := Nat.lt_of_lt_of_le q3 h12
  have k2_12_4 := Nat.lt_of_lt_of_le q4 h12
  have k2_12_5 := Nat.lt_of_lt_of_le q5 h12
  clear F qT q0 q1 q2 q3 q4 q5 h12 X12
  go_upto_region 3 with fail
  obtain ⟨q6, q5, q4, q3, q2, q1, q0, qT⟩ := RR.out.r.lts
  refine wp_region_told (by kernel_rfl) (by kernel_rfl) (by kernel_rfl) [(w.heap.size, (T3 x1 y1 z1)), (w.heap.size + 1, (T3 x2 y2 z2)), (w.heap.size + 1 + 1, Z12), (g1_15, (Ar m_0)), (g1_16, (Ar m_1)), (g1_17, (Ar m_2)), (g2_12, (Ar x_4))]
    [sV (PO w.heap.size 4),
     sV (U y1),
     sV (PO w.heap.size 8),
     sV (U z1),
     sV (PO (w.heap.size + 1) 4),
     sV (U y2),
     sV (PO (w.heap.size + 1) 8),
     sV (U z2),
     sV (U m_1),
     sV (U m_2),
     sV (U a_5),
     sV (U x_6),
     sA (fun g => .pointer (some ⟨g, 0, none⟩)) 13 Zr (Ar x_6),
     sS 12]
    (by kernel_rfl) RR.out.b (RowsAt.cons (RR.out.at 6 rfl) (RowsAt.cons (RR.out.at 5 rfl) (RowsAt.cons (RR.out.at 4 rfl) (RowsAt.cons (RR.out.at 3 rfl) (RowsAt.cons (RR.out.at 2 rfl) (RowsAt.cons (RR.out.at 1 rfl) (RowsAt.cons (RR.out.at 0 rfl) RowsAt.nil))))))) (StOk.of [] rfl StM.nil)
    (Obs.val (fun a' w' E => ob_indexAddr 67 (.tmp 2) (.const (.int .i64 1)) rfl (E.old 2 (by kernel_rfl)) (evc a' (.int .i64 1)) (ix67_1 _ _ w'))
    (Obs.val (fun a' w' E => ob_loada 24 (.tmp 40) rfl (E.new (v := (PO w.heap.size 4)) 40 0 (by kernel_rfl) rfl) (E.row (g := w.heap.size) (c := (T3 x1 y1 z1)) 0 rfl) Tryd.underlying24 rfl (by kernel_rfl) rfl)
    (Obs.val (fun a' w' E => ob_indexAddr 67 (.tmp 2) (.const (.int .i64 2)) rfl (E.old 2 (by kernel_rfl)) (evc a' (.int .i64 2)) (ix67_2 _ _ w'))
    (Obs.val (fun a' w' E => ob_loada 24 (.tmp 42) rfl (E.new (v := (PO w.heap.size 8)) 42 2 (by kernel_rfl) rfl) (E.row (g := w.heap.size) (c := (T3 x1 y1 z1)) 0 rfl) Tryd.underlying24 rfl (by kernel_rfl) rfl)
    (Obs.val (fun a' w' E => ob_indexAddr 67 (.tmp 3) (.const (.int .i64 1)) rfl (E.old 3 (by kernel_rfl)) (evc a' (.int .i64 1)) (ix67_1 _ _ w'))
    (Obs.val (fun a' w' E => ob_loada 24 (.tmp 44) rfl (E.new (v := (PO (w.heap.size + 1) 4)) 44 4 (by kernel_rfl) rfl) (E.row (g := w.heap.size + 1) (c := (T3 x2 y2 z2)) 1 rfl) Tryd.underlying24 rfl (by kernel_rfl) rfl)
    (Obs.val (fun a' w' E => ob_indexAddr 67 (.tmp 3) (.const (.int .i64 2)) rfl (E.old 3 (by kernel_rfl)) (evc a' (.int .i64 2)) (ix67_2 _ _ w'))
    (Obs.val (fun a' w' E => ob_loada 24 (.tmp 46) rfl (E.new (v := (PO (w.heap.size + 1) 8)) 46 6 (by kernel_rfl) rfl) (E.row (g := w.heap.size + 1) (c := (T3 x2 y2 z2)) 1 rfl) Tryd.underlying24 rfl (by kernel_rfl) rfl)
    (Obs.val (fun a' w' E => ob_loada 24 (.tmp 6) rfl (E.old 6 (by kernel_rfl)) (E.row (g := g1_16) (c := (Ar m_1)) 4 rfl) Tryd.underlying24 rfl (by kernel_rfl) rfl)
    (Obs.val (fun a' w' E => ob_loada 24 (.tmp 7) rfl (E.old 7 (by kernel_rfl)) (E.row (g := g1_17) (c := (Ar m_2)) 5 rfl) Tryd.underlying24 rfl (by kernel_rfl) rfl)
    (Obs.val (fun a' w' E => ob_fcall 89 _ _ rfl (am2 (E.new (v := (U m_1)) 48 8 (by kernel_rfl) rfl) (E.new (v := (U m_2)) 49 9 (by kernel_rfl) rfl)) (fc89 _ _) (c6.out w'))
    (Obs.val (fun a' w' E => ob_fcall 88 _ _ rfl (am5 (E.new (v := (U y1)) 41 1 (by kernel_rfl) rfl) (E.new (v := (U z1)) 43 3 (by kernel_rfl) rfl) (E.new (v := (U y2)) 45 5 (by kernel_rfl) rfl) (E.new (v := (U z2)) 47 7 (by kernel_rfl) rfl) (E.new (v := (U a_5)) 50 10 (by kernel_rfl) rfl)) (fc88 _ _) (c7.out w'))
    (Obs.alloc (fun a' w' E => ob_alloc (t := 24) (by simp [opAt, execOp, go_sem]))
    (Obs.sta rfl (fun a' w' g E ha hr => ob_storea 24 (.tmp 9) (.tmp 51) rfl (ha 9 (by kernel_rfl)) (E.new (v := (U x_6)) 51 11 (by kernel_rfl) rfl) rfl hr (by kernel_rfl) (Nat.le_of_ble_eq_true rfl) (by kernel_rfl) rfl)
    Obs.nil)))))))))))))) ?_
  intro bs w3 aZ haZ F
  have eZ : aZ = ({ tmps := #[(A3 x1 y1 z1), (A3 x2 y2 z2), (PT w.heap.size), (PT (w.heap.size + 1)), (PT (w.heap.size + 1 + 1)), (PT g1_15), (PT g1_16), (PT g1_17), (PT g2_12), (PT ((bs 12))), undef, undef, undef, (PT w.heap.size), (U x1), (PT (w.heap.size + 1)), (U x2), (U m_0), (PO w.heap.size 4), (U y1), (PO (w.heap.size + 1) 4), (U y2), (U m_1), (PO w.heap.size 8), (U z1), (PO (w.heap.size + 1) 8), (U z2), (U m_2), (PT w.heap.size), (U x1), (PO w.heap.size 4), (U y1), (PT (w.heap.size + 1)), (U x2), (PO (w.heap.size + 1) 4), (U y2), (U m_0), (U m_1), (U a_3), (U x_4), (PO w.heap.size 4), (U y1), (PO w.heap.size 8), (U z1), (PO (w.heap.size + 1) 4), (U y2), (PO (w.heap.size + 1) 8), (U z2), (U m_1), (U m_2), (U a_5), (U x_6), undef, undef, undef, undef, undef, undef, undef, undef, undef, undef, undef, undef, undef, undef, undef, undef, undef, undef, undef, undef, undef, undef, undef, undef, undef, undef, undef, undef, undef, undef, undef, undef, undef, undef, undef, undef, undef, undef, undef, undef, undef, undef, undef, undef, undef, undef, undef, undef, undef, undef, undef], defers := [] } : Act) := haZ.trans (by kernel_rfl)
  subst eZ
  clear haZ
  obtain ⟨h12, X12⟩ := F.al 12 rfl rfl
  replace RR : Hid (RB w w3 [((bs 12), (Ar x_6)), (g2_12, (Ar x_4)), (g1_17, (Ar m_2)), (g1_16, (Ar m_1)), (g1_15, (Ar m_0)), (w.heap.size + 1 + 1, Z12), (w.heap.size + 1, (T3 x2 y2 z2)), (w.heap.size, (T3 x1 y1 z1))]) := ⟨F.bw, (RowsAt.cons X12 (RowsAt.cons (F.row 6 rfl) (RowsAt.cons (F.row 5 rfl) (RowsAt.cons (F.row 4 rfl) (RowsAt.cons (F.row 3 rfl) (RowsAt.cons (F.row 2 rfl) (RowsAt.cons (F.row 1 rfl) (RowsAt.cons (F.row 0 rfl) RowsAt.nil))))))))⟩
  generalize bs 12 = g3_12 at *
  have k3_12_0 := Nat.lt_of_lt_of_le q0 h12
  have k3_12_1 := Nat.lt_of_lt_of_le q1 h12
  have k3_12_2 := Nat.lt_of_lt_of_le q2 h12
  have k3_12_3 := Nat.lt_of_lt_of_le q3 h12
  have k3_12_4 := Nat.lt_of_lt_of_le q4 h12
  have k3_12_5 := Nat.lt_of_lt_of_le q5 h12
  have k3_12_6 := Nat.lt_of_lt_of_le q6 h12
  clear F qT q0 q1 q2 q3 q4 q5 q6 h12 X12
  go_upto_region 4 with fail
  obtain ⟨q7, q6, q5, q4, q3, q2, q1, q0, qT⟩ := RR.out.r.lts
  refine wp_region_told (by kernel_rfl) (by kernel_rfl) (by kernel_rfl) [(w.heap.size, (T3 x1 y1 z1)), (w.heap.size + 1, (T3 x2 y2 z2)), (w.heap.size + 1 + 1, Z12), (g1_15, (Ar m_0)), (g1_16, (Ar m_1)), (g1_17, (Ar m_2)), (g2_12, (Ar x_4)), (g3_12, (Ar x_6))]
    [sV (PT w.heap.size),
     sV (U x1),
     sV (PO w.heap.size 8),
     sV (U z1),
     sV (PT (w.heap.size + 1)),
     sV (U x2),
     sV (PO (w.heap.size + 1) 8),
     sV (U z2),
     sV (U m_0),
     sV (U m_2),
     sV (U a_7),
     sV (U x_8),
     sA (fun g => .pointer (some ⟨g, 0, none⟩)) 13 Zr (Ar x_8),
     sS 12]
    (by kernel_rfl) RR.out.b (RowsAt.cons (RR.out.at 7 rfl) (RowsAt.cons (RR.out.at 6 rfl) (RowsAt.cons (RR.out.at 5 rfl) (RowsAt.cons (RR.out.at 4 rfl) (RowsAt.cons (RR.out.at 3 rfl) (RowsAt.cons (RR.out.at 2 rfl) (RowsAt.cons (RR.out.at 1 rfl) (RowsAt.cons (RR.out.at 0 rfl) RowsAt.nil)))))))) (StOk.of [] rfl StM.nil)
    (Obs.val (fun a' w' E => ob_indexAddr 67 (.tmp 2) (.const (.int .i64 0)) rfl (E.old 2 (by kernel_rfl)) (evc a' (.int .i64 0)) (ix67_0 _ _ w'))
    (Obs.val (fun a' w' E => ob_loada 24 (.tmp 52) rfl (E.new (v := (PT w.heap.size)) 52 0 (by kernel_rfl) rfl) (E.row (g := w.heap.size) (c := (T3 x1 y1 z1)) 0 rfl) Tryd.underlying24 rfl (by kernel_rfl) rfl)
    (Obs.val (fun a' w' E => ob_indexAddr 67 (.tmp 2) (.const (.int .i64 2)) rfl (E.old 2 (by kernel_rfl)) (evc a' (.int .i64 2)) (ix67_2 _ _ w'))
    (Obs.val (fun a' w' E => ob_loada 24 (.tmp 54) rfl (E.new (v := (PO w.heap.size 8)) 54 2 (by kernel_rfl) rfl) (E.row (g := w.heap.size) (c := (T3 x1 y1 z1)) 0 rfl) Tryd.underlying24 rfl (by kernel_rfl) rfl)
    (Obs.val (fun a' w' E => ob_indexAddr 67 (.tmp 3) (.const (.int .i64 0)) rfl (E.old 3 (by kernel_rfl)) (evc a' (.int .i64 0)) (ix67_0 _ _ w'))
    (Obs.val (fun a' w' E => ob_loada 24 (.tmp 56) rfl (E.new (v := (PT (w.heap.size + 1))) 56 4 (by kernel_rfl) rfl) (E.row (g := w.heap.size + 1) (c := (T3 x2 y2 z2)) 1 rfl) Tryd.underlying24 rfl (by kernel_rfl) rfl)
    (Obs.val (fun a' w' E => ob_indexAddr 67 (.tmp 3) (.const (.int .i64 2)) rfl (E.old 3 (by kernel_rfl)) (evc a' (.int .i64 2)) (ix67_2 _ _ w'))
    (Obs.val (fun a' w' E => ob_loada 24 (.tmp 58) rfl (E.new (v := (PO (w.heap.size + 1) 8)) 58 6 (by kernel_rfl) rfl) (E.row (g := w.heap.size + 1) (c := (T3 x2 y2 z2)) 1 rfl) Tryd.underlying24 rfl (by kernel_rfl) rfl)
    (Obs.val (fun a' w' E => ob_loada 24 (.tmp 5) rfl (E.old 5 (by kernel_rfl)) (E.row (g := g1_15) (c := (Ar m_0)) 3 rfl) Tryd.underlying24 rfl (by kernel_rfl) rfl)
    (Obs.val (fun a' w' E => ob_loada 24 (.tmp 7) rfl (E.old 7 (by kernel_rfl)) (E.row (g := g1_17) (c := (Ar m_2)) 5 rfl) Tryd.underlying24 rfl (by kernel_rfl) rfl)
    (Obs.val (fun a' w' E => ob_fcall 89 _ _ rfl (am2 (E.new (v := (U m_0)) 60 8 (by kernel_rfl) rfl) (E.new (v := (U m_2)) 61 9 (by kernel_rfl) rfl)) (fc89 _ _) (c8.out w'))
    (Obs.val (fun a' w' E => ob_fcall 88 _ _ rfl (am5 (E.new (v := (U x1)) 53 1 (by kernel_rfl) rfl) (E.new (v := (U z1)) 55 3 (by kernel_rfl) rfl) (E.new (v := (U x2)) 57 5 (by kernel_rfl) rfl) (E.new (v := (U z2)) 59 7 (by kernel_rfl) rfl) (E.new (v := (U a_7)) 62 10 (by kernel_rfl) rfl)) (fc88 _ _) (c9.out w'))
    (Obs.alloc (fun a' w' E => ob_alloc (t := 24) (by simp [opAt, execOp, go_sem]))
    (Obs.sta rfl (fun a' w' g E ha hr => ob_storea 24 (.tmp 10) (.tmp 63) rfl (ha 10 (by kernel_rfl)) (E.new (v := (U x_8)) 63 11 (by kernel_rfl) rfl) rfl hr (by kernel_rfl) (Nat.le_of_ble_eq_true rfl) (by kernel_rfl) rfl)
    Obs.nil)))))))))))))) ?_
  intro bs w4 aZ haZ F
  have eZ : aZ = ({ tmps := #[(A3 x1 y1 z1), (A3 x2 y2 z2), (PT w.heap.size), (PT (w.heap.size + 1)), (PT (w.heap.size + 1 + 1)), (PT g1_15), (PT g1_16), (PT g1_17), (PT g2_12), (PT g3_12), (PT ((bs 12))), undef, undef, (PT w.heap.size), (U x1), (PT (w.heap.size + 1)), (U x2), (U m_0), (PO w.heap.size 4), (U y1), (PO (w.heap.size + 1) 4), (U y2), (U m_1), (PO w.heap.size 8), (U z1), (PO (w.heap.size + 1) 8), (U z2), (U m_2), (PT w.heap.size), (U x1), (PO w.heap.size 4), (U y1), (PT (w.heap.size + 1)), (U x2), (PO (w.heap.size + 1) 4), (U y2), (U m_0), (U m_1), (U a_3), (U x_4), (PO w.heap.size 4), (U y1), (PO w.heap.size 8), (U z1), (PO (w.heap.size + 1) 4), (U y2), (PO (w.heap.size + 1) 8), (U z2), (U m_1), (U m_2), (U a_5), (U x_6), (PT w.heap.size), (U x1), (PO w.heap.size 8), (U z1), (PT (w.heap.size + 1)), (U x2), (PO (w.heap.size + 1) 8), (U z2), (U m_0), (U m_2), (U a_7), (U x_8), undef, undef, undef, undef, undef, undef, undef, undef, undef, undef, undef, undef, undef, undef, undef, undef, undef, undef, undef, undef, undef, undef, undef, undef, undef, undef, undef, undef, undef, undef, undef, undef, undef, undef, undef, undef, undef, undef, undef], defers := [] } : Act) := haZ.trans (by kernel_rfl)
  subst eZ
  clear haZ
  obtain ⟨h12, X12⟩ := F.al 12 rfl rfl
  replace RR : Hid (RB w w4 [((bs 12), (Ar x_8)), (g3_12, (Ar x_6)), (g2_12, (Ar x_4)), (g1_17, (Ar m_2)), (g1_16, (Ar m_1)), (g1_15, (Ar m_0)), (w.heap.size + 1 + 1, Z12), (w.heap.size + 1, (T3 x2 y2 z2)), (w.heap.size, (T3 x1 y1 z1))]) := ⟨F.bw, (RowsAt.cons X12 (RowsAt.cons (F.row 7 rfl) (RowsAt.cons (F.row 6 rfl) (RowsAt.cons (F.row 5 rfl) (RowsAt.cons (F.row 4 rfl) (RowsAt.cons (F.row 3 rfl) (RowsAt.cons (F.row 2 rfl) (RowsAt.cons (F.row 1 rfl) (RowsAt.cons (F.row 0 rfl) RowsAt.nil)))))))))⟩
  generalize bs 12 = g4_12 at *
  have k4_12_0 := Nat.lt_of_lt_of_le q0 h12
  have k4_12_1 := Nat.lt_of_lt_of_le q1 h12
  have k4_12_2 := Nat.lt_of_lt_of_le q2 h12
  have k4_12_3 := Nat.lt_of_lt_of_le q3 h12
  have k4_12_4 := Nat.lt_of_lt_of_le q4 h12
  have k4_12_5 := Nat.lt_of_lt_of_le q5 h12
  have k4_12_6 := Nat.lt_of_lt_of_le q6 h12
  have k4_12_7 := Nat.lt_of_lt_of_le q7 h12
  clear F qT q0 q1 q2 q3 q4 q5 q6 q7 h12 X12
  go_upto_region 5 with fail
  obtain ⟨q8, q7, q6, q5, q4, q3, q2, q1, q0, qT⟩ := RR.out.r.lts
  refine wp_region_told (by kernel_rfl) (by kernel_rfl) (by kernel_rfl) [(w.heap.size, (T3 x1 y1 z1)), (w.heap.size + 1, (T3 x2 y2 z2)), (w.heap.size + 1 + 1, Z12), (g1_16, (Ar m_1)), (g1_17, (Ar m_2)), (g2_12, (Ar x_4)), (g3_12, (Ar x_6)), (g4_12, (Ar x_8))]
    [sV (U m_0),
     sV (U m_0),
     sV (U m_0),
     sV (U a_9),
     sV (U a_10),
     sK (g1_15) (Ar m_0) (Ar a_10)]
    (by kernel_rfl) RR.out.b (RowsAt.cons (RR.out.at 8 rfl) (RowsAt.cons (RR.out.at 7 rfl) (RowsAt.cons (RR.out.at 6 rfl) (RowsAt.cons (RR.out.at 4 rfl) (RowsAt.cons (RR.out.at 3 rfl) (RowsAt.cons (RR.out.at 2 rfl) (RowsAt.cons (RR.out.at 1 rfl) (RowsAt.cons (RR.out.at 0 rfl) RowsAt.nil)))))))) (StOk.of [(g1_15, (Ar m_0))] rfl (StM.cons (RR.out.at 5 rfl) (by omega) (Apart.cons (by omega) (Apart.cons (by omega) (Apart.cons (by omega) (Apart.cons (by omega) (Apart.cons (by omega) (Apart.cons (by omega) (Apart.cons (by omega) (Apart.cons (by omega) Apart.nil)))))))) Apart.nil StM.nil))
    (Obs.val (fun a' w' E => ob_loada 24 (.tmp 5) rfl (E.old 5 (by kernel_rfl)) (E.skb (g := g1_15) (i := (Ar m_0)) (e := (Ar a_10)) 5 rfl (by kernel_rfl)) Tryd.underlying24 rfl (by kernel_rfl) rfl)
    (Obs.val (fun a' w' E => ob_loada 24 (.tmp 5) rfl (E.old 5 (by kernel_rfl)) (E.skb (g := g1_15) (i := (Ar m_0)) (e := (Ar a_10)) 5 rfl (by kernel_rfl)) Tryd.underlying24 rfl (by kernel_rfl) rfl)
    (Obs.val (fun a' w' E => ob_loada 24 (.tmp 5) rfl (E.old 5 (by kernel_rfl)) (E.skb (g := g1_15) (i := (Ar m_0)) (e := (Ar a_10)) 5 rfl (by kernel_rfl)) Tryd.underlying24 rfl (by kernel_rfl) rfl)
    (Obs.val (fun a' w' E => ob_fcall 89 _ _ rfl (am2 (E.new (v := (U m_0)) 65 1 (by kernel_rfl) rfl) (E.new (v := (U m_0)) 66 2 (by kernel_rfl) rfl)) (fc89 _ _) (c10.out w'))
    (Obs.val (fun a' w' E => ob_fcall 89 _ _ rfl (am2 (E.new (v := (U m_0)) 64 0 (by kernel_rfl) rfl) (E.new (v := (U a_9)) 67 3 (by kernel_rfl) rfl)) (fc89 _ _) (c11.out w'))
    (Obs.stk (fun a' w' E hr => ob_storea 24 (.tmp 5) (.tmp 68) rfl (E.old 5 (by kernel_rfl)) (E.new (v := (U a_10)) 68 4 (by kernel_rfl) rfl) rfl hr (by kernel_rfl) (Nat.le_of_ble_eq_true rfl) (by kernel_rfl) rfl)
    Obs.nil)))))) ?_
  intro bs w5 aZ haZ F
  have eZ : aZ = ({ tmps := #[(A3 x1 y1 z1), (A3 x2 y2 z2), (PT w.heap.size), (PT (w.heap.size + 1)), (PT (w.heap.size + 1 + 1)), (PT g1_15), (PT g1_16), (PT g1_17), (PT g2_12), (PT g3_12), (PT g4_12), undef, undef, (PT w.heap.size), (U x1), (PT (w.heap.size + 1)), (U x2), (U m_0), (PO w.heap.size 4), (U y1), (PO (w.heap.size + 1) 4), (U y2), (U m_1), (PO w.heap.size 8), (U z1), (PO (w.heap.size + 1) 8), (U z2), (U m_2), (PT w.heap.size), (U x1), (PO w.heap.size 4), (U y1), (PT (w.heap.size + 1)), (U x2), (PO (w.heap.size + 1) 4), (U y2), (U m_0), (U m_1), (U a_3), (U x_4), (PO w.heap.size 4), (U y1), (PO w.heap.size 8), (U z1), (PO (w.heap.size + 1) 4), (U y2), (PO (w.heap.size + 1) 8), (U z2), (U m_1), (U m_2), (U a_5), (U x_6), (PT w.heap.size), (U x1), (PO w.heap.size 8), (U z1), (PT (w.heap.size + 1)), (U x2), (PO (w.heap.size + 1) 8), (U z2), (U m_0), (U m_2), (U a_7), (U x_8), (U m_0), (U m_0), (U m_0), (U a_9), (U a_10), undef, undef, undef, undef, undef, undef, undef, undef, undef, undef, undef, undef, undef, undef, undef, undef, undef, undef, undef, undef, undef, undef, undef, undef, undef, undef, undef, undef, undef, undef, undef, undef, undef, undef], defers := [] } : Act) := haZ.trans (by kernel_rfl)
  subst eZ
  clear haZ
  replace RR : Hid (RB w w5 [(g4_12, (Ar x_8)), (g3_12, (Ar x_6)), (g2_12, (Ar x_4)), (g1_17, (Ar m_2)), (g1_16, (Ar m_1)), (g1_15, (Ar a_10)), (w.heap.size + 1 + 1, Z12), (w.heap.size + 1, (T3 x2 y2 z2)), (w.heap.size, (T3 x1 y1 z1))]) := ⟨F.bw, (RowsAt.cons (F.row 7 rfl) (RowsAt.cons (F.row 6 rfl) (RowsAt.cons (F.row 5 rfl) (RowsAt.cons (F.row 4 rfl) (RowsAt.cons (F.row 3 rfl) (RowsAt.cons (F.sk 5 rfl) (RowsAt.cons (F.row 2 rfl) (RowsAt.cons (F.row 1 rfl) (RowsAt.cons (F.row 0 rfl) RowsAt.nil)))))))))⟩
  clear F qT q0 q1 q2 q3 q4 q5 q6 q7 q8
  go_upto_region 6 with fail
  obtain ⟨q8, q7, q6, q5, q4, q3, q2, q1, q0, qT⟩ := RR.out.r.lts
  refine wp_region_told (by kernel_rfl) (by kernel_rfl) (by kernel_rfl) [(w.heap.size, (T3 x1 y1 z1)), (w.heap.size + 1, (T3 x2 y2 z2)), (w.heap.size + 1 + 1, Z12), (g1_15, (Ar a_10)), (g1_16, (Ar m_1)), (g2_12, (Ar x_4)), (g3_12, (Ar x_6)), (g4_12, (Ar x_8))]
    [sV (U k_11),
     sV (U m_2),
     sV (U m_12),
     sK (g1_17) (Ar m_2) (Ar m_12)]
    (by kernel_rfl) RR.out.b (RowsAt.cons (RR.out.at 8 rfl) (RowsAt.cons (RR.out.at 7 rfl) (RowsAt.cons (RR.out.at 6 rfl) (RowsAt.cons (RR.out.at 5 rfl) (RowsAt.cons (RR.out.at 4 rfl) (RowsAt.cons (RR.out.at 2 rfl) (RowsAt.cons (RR.out.at 1 rfl) (RowsAt.cons (RR.out.at 0 rfl) RowsAt.nil)))))))) (StOk.of [(g1_17, (Ar m_2))] rfl (StM.cons (RR.out.at 3 rfl) (by omega) (Apart.cons (by omega) (Apart.cons (by omega) (Apart.cons (by omega) (Apart.cons (by omega) (Apart.cons (by omega) (Apart.cons (by omega) (Apart.cons (by omega) (Apart.cons (by omega) Apart.nil)))))))) Apart.nil StM.nil))
    (Obs.val (fun a' w' E => ob_fcall 31 _ _ rfl (am1 (evc a' (.int .u64 21))) (fc31 _ _) (c12.out w'))
    (Obs.val (fun a' w' E => ob_loada 24 (.tmp 7) rfl (E.old 7 (by kernel_rfl)) (E.skb (g := g1_17) (i := (Ar m_2)) (e := (Ar m_12)) 3 rfl (by kernel_rfl)) Tryd.underlying24 rfl (by kernel_rfl) rfl)
    (Obs.val (fun a' w' E => ob_fcall 67 _ _ rfl (am2 (E.new (v := (U k_11)) 69 0 (by kernel_rfl) rfl) (E.new (v := (U m_2)) 70 1 (by kernel_rfl) rfl)) (fc67 _ _) (c13.out w'))
    (Obs.stk (fun a' w' E hr => ob_storea 24 (.tmp 7) (.tmp 71) rfl (E.old 7 (by kernel_rfl)) (E.new (v := (U m_12)) 71 2 (by kernel_rfl) rfl) rfl hr (by kernel_rfl) (Nat.le_of_ble_eq_true rfl) (by kernel_rfl) rfl)
    Obs.nil)))) ?_
  intro bs w6 aZ haZ F
  have eZ : aZ = ({ tmps := #[(A3 x1 y1 z1), (A3 x2 y2 z2), (PT w.heap.size), (PT (w.heap.size + 1)), (PT (w.heap.size + 1 + 1)), (PT g1_15), (PT g1_16), (PT g1_17), (PT g2_12), (PT g3_12), (PT g4_12), undef, undef, (PT w.heap.size), (U x1), (PT (w.heap.size + 1)), (U x2), (U m_0), (PO w.heap.size 4), (U y1), (PO (w.heap.size + 1) 4), (U y2), (U m_1), (PO w.heap.size 8), (U z1), (PO (w.heap.size + 1) 8), (U z2), (U m_2), (PT w.heap.size), (U x1), (PO w.heap.size 4), (U y1), (PT (w.heap.size + 1)), (U x2), (PO (w.heap.size + 1) 4), (U y2), (U m_0), (U m_1), (U a_3), (U x_4), (PO w.heap.size 4), (U y1), (PO w.heap.size 8), (U z1), (PO (w.heap.size + 1) 4), (U y2), (PO (w.heap.size + 1) 8), (U z2), (U m_1), (U m_2), (U a_5), (U x_6), (PT w.heap.size), (U x1), (PO w.heap.size 8), (U z1), (PT (w.heap.size + 1)), (U x2), (PO (w.heap.size + 1) 8), (U z2), (U m_0), (U m_2), (U a_7), (U x_8), (U m_0), (U m_0), (U m_0), (U a_9), (U a_10), (U k_11), (U m_2), (U m_12), undef, undef, undef, undef, undef, undef, undef, undef, undef, undef, undef, undef, undef, undef, undef, undef, undef, undef, undef, undef, undef, undef, undef, undef, undef, undef, undef, undef, undef, undef, undef], defers := [] } : Act) := haZ.trans (by kernel_rfl)
  subst eZ
  clear haZ
  replace RR : Hid (RB w w6 [(g4_12, (Ar x_8)), (g3_12, (Ar x_6)), (g2_12, (Ar x_4)), (g1_17, (Ar m_12)), (g1_16, (Ar m_1)), (g1_15, (Ar a_10)), (w.heap.size + 1 + 1, Z12), (w.heap.size + 1, (T3 x2 y2 z2)), (w.heap.size, (T3 x1 y1 z1))]) := ⟨F.bw, (RowsAt.cons (F.row 7 rfl) (RowsAt.cons (F.row 6 rfl) (RowsAt.cons (F.row 5 rfl) (RowsAt.cons (F.sk 3 rfl) (RowsAt.cons (F.row 4 rfl) (RowsAt.cons (F.row 3 rfl) (RowsAt.cons (F.row 2 rfl) (RowsAt.cons (F.row 1 rfl) (RowsAt.cons (F.row 0 rfl) RowsAt.nil)))))))))⟩
  clear F qT q0 q1 q2 q3 q4 q5 q6 q7 q8
  go_upto_region 7 with fail
  obtain ⟨q8, q7, q6, q5, q4, q3, q2, q1, q0, qT⟩ := RR.out.r.lts
  refine wp_region_told (by kernel_rfl) (by kernel_rfl) (by kernel_rfl) [(w.heap.size, (T3 x1 y1 z1)), (w.heap.size + 1, (T3 x2 y2 z2)), (w.heap.size + 1 + 1, Z12), (g1_15, (Ar a_10)), (g1_16, (Ar m_1)), (g1_17, (Ar m_12)), (g2_12, (Ar x_4)), (g3_12, (Ar x_6))]
    [sV (U k_11),
     sV (U x_8),
     sV (U m_13),
     sK (g4_12) (Ar x_8) (Ar m_13)]
    (by kernel_rfl) RR.out.b (RowsAt.cons (RR.out.at 8 rfl) (RowsAt.cons (RR.out.at 7 rfl) (RowsAt.cons (RR.out.at 6 rfl) (RowsAt.cons (RR.out.at 5 rfl) (RowsAt.cons (RR.out.at 4 rfl) (RowsAt.cons (RR.out.at 3 rfl) (RowsAt.cons (RR.out.at 2 rfl) (RowsAt.cons (RR.out.at 1 rfl) RowsAt.nil)))))))) (StOk.of [(g4_12, (Ar x_8))] rfl (StM.cons (RR.out.at 0 rfl) (by omega) (Apart.cons (by omega) (Apart.cons (by omega) (Apart.cons (by omega) (Apart.cons (by omega) (Apart.cons (by omega) (Apart.cons (by omega) (Apart.cons (by omega) (Apart.cons (by omega) Apart.nil)))))))) Apart.nil StM.nil))
    (Obs.val (fun a' w' E => ob_fcall 31 _ _ rfl (am1 (evc a' (.int .u64 21))) (fc31 _ _) (c12.out w'))
    (Obs.val (fun a' w' E => ob_loada 24 (.tmp 10) rfl (E.old 10 (by kernel_rfl)) (E.skb (g := g4_12) (i := (Ar x_8)) (e := (Ar m_13)) 3 rfl (by kernel_rfl)) Tryd.underlying24 rfl (by kernel_rfl) rfl)
    (Obs.val (fun a' w' E => ob_fcall 67 _ _ rfl (am2 (E.new (v := (U k_11)) 72 0 (by kernel_rfl) rfl) (E.new (v := (U x_8)) 73 1 (by kernel_rfl) rfl)) (fc67 _ _) (c14.out w'))
    (Obs.stk (fun a' w' E hr => ob_storea 24 (.tmp 10) (.tmp 74) rfl (E.old 10 (by kernel_rfl)) (E.new (v := (U m_13)) 74 2 (by kernel_rfl) rfl) rfl hr (by kernel_rfl) (Nat.le_of_ble_eq_true rfl) (by kernel_rfl) rfl)
    Obs.nil)))) ?_
  intro bs w7 aZ haZ F
  have eZ : aZ = ({ tmps := #[(A3 x1 y1 z1), (A3 x2 y2 z2), (PT w.heap.size), (PT (w.heap.size + 1)), (PT (w.heap.size + 1 + 1)), (PT g1_15), (PT g1_16), (PT g1_17), (PT g2_12), (PT g3_12), (PT g4_12), undef, undef, (PT w.heap.size), (U x1), (PT (w.heap.size + 1)), (U x2), (U m_0), (PO w.heap.size 4), (U y1), (PO (w.heap.size + 1) 4), (U y2), (U m_1), (PO w.heap.size 8), (U z1), (PO (w.heap.size + 1) 8), (U z2), (U m_2), (PT w.heap.size), (U x1), (PO w.heap.size 4), (U y1), (PT (w.heap.size + 1)), (U x2), (PO (w.heap.size + 1) 4), (U y2), (U m_0), (U m_1), (U a_3), (U x_4), (PO w.heap.size 4), (U y1), (PO w.heap.size 8), (U z1), (PO (w.heap.size + 1) 4), (U y2), (PO (w.heap.size + 1) 8), (U z2), (U m_1), (U m_2), (U a_5), (U x_6), (PT w.heap.size), (U x1), (PO w.heap.size 8), (U z1), (PT (w.heap.size + 1)), (U x2), (PO (w.heap.size + 1) 8), (U z2), (U m_0), (U m_2), (U a_7), (U x_8), (U m_0), (U m_0), (U m_0), (U a_9), (U a_10), (U k_11), (U m_2), (U m_12), (U k_11), (U x_8), (U m_13), undef, undef, undef, undef, undef, undef, undef, undef, undef, undef, undef, undef, undef, undef, undef, undef, undef, undef, undef, undef, undef, undef, undef, undef, undef, undef, undef, undef], defers := [] } : Act) := haZ.trans (by kernel_rfl)
  subst eZ
  clear haZ
  replace RR : Hid (RB w w7 [(g4_12, (Ar m_13)), (g3_12, (Ar x_6)), (g2_12, (Ar x_4)), (g1_17, (Ar m_12)), (g1_16, (Ar m_1)), (g1_15, (Ar a_10)), (w.heap.size + 1 + 1, Z12), (w.heap.size + 1, (T3 x2 y2 z2)), (w.heap.size, (T3 x1 y1 z1))]) := ⟨F.bw, (RowsAt.cons (F.sk 3 rfl) (RowsAt.cons (F.row 7 rfl) (RowsAt.cons (F.row 6 rfl) (RowsAt.cons (F.row 5 rfl) (RowsAt.cons (F.row 4 rfl) (RowsAt.cons (F.row 3 rfl) (RowsAt.cons (F.row 2 rfl) (RowsAt.cons (F.row 1 rfl) (RowsAt.cons (F.row 0 rfl) RowsAt.nil)))))))))⟩
  clear F qT q0 q1 q2 q3 q4 q5 q6 q7 q8
  go_upto_region 8 with fail
  obtain ⟨q8, q7, q6, q5, q4, q3, q2, q1, q0, qT⟩ := RR.out.r.lts
  refine wp_region_told (by kernel_rfl) (by kernel_rfl) (by kernel_rfl) [(w.heap.size, (T3 x1 y1 z1)), (w.heap.size + 1, (T3 x2 y2 z2)), (w.heap.size + 1 + 1, Z12), (g1_15, (Ar a_10)), (g1_16, (Ar m_1)), (g1_17, (Ar m_12)), (g2_12, (Ar x_4)), (g3_12, (Ar x_6)), (g4_12, (Ar m_13))]
    [sV (U m_1),
     sV (U m_12),
     sV (U a_14),
     sV (U m_1),
     sV (U m_12),
     sV (U d_15),
     sA (fun g => .pointer (some ⟨g, 0, none⟩)) 8 Zr (Ar a_14),
     sA (fun g => .pointer (some ⟨g, 0, none⟩)) 9 Zr (Ar d_15),
     sS 6,
     sS 7]
    (by kernel_rfl) RR.out.b (RowsAt.cons (RR.out.at 8 rfl) (RowsAt.cons (RR.out.at 7 rfl) (RowsAt.cons (RR.out.at 6 rfl) (RowsAt.cons (RR.out.at 5 rfl) (RowsAt.cons (RR.out.at 4 rfl) (RowsAt.cons (RR.out.at 3 rfl) (RowsAt.cons (RR.out.at 2 rfl) (RowsAt.cons (RR.out.at 1 rfl) (RowsAt.cons (RR.out.at 0 rfl) RowsAt.nil))))))))) (StOk.of [] rfl StM.nil)
    (Obs.val (fun a' w' E => ob_loada 24 (.tmp 6) rfl (E.old 6 (by kernel_rfl)) (E.row (g := g1_16) (c := (Ar m_1)) 4 rfl) Tryd.underlying24 rfl (by kernel_rfl) rfl)
    (Obs.val (fun a' w' E => ob_loada 24 (.tmp 7) rfl (E.old 7 (by kernel_rfl)) (E.row (g := g1_17) (c := (Ar m_12)) 5 rfl) Tryd.underlying24 rfl (by kernel_rfl) rfl)
    (Obs.val (fun a' w' E => ob_fcall 89 _ _ rfl (am2 (E.new (v := (U m_1)) 75 0 (by kernel_rfl) rfl) (E.new (v := (U m_12)) 76 1 (by kernel_rfl) rfl)) (fc89 _ _) (c15.out w'))
    (Obs.val (fun a' w' E => ob_loada 24 (.tmp 6) rfl (E.old 6 (by kernel_rfl)) (E.row (g := g1_16) (c := (Ar m_1)) 4 rfl) Tryd.underlying24 rfl (by kernel_rfl) rfl)
    (Obs.val (fun a' w' E => ob_loada 24 (.tmp 7) rfl (E.old 7 (by kernel_rfl)) (E.row (g := g1_17) (c := (Ar m_12)) 5 rfl) Tryd.underlying24 rfl (by kernel_rfl) rfl)
    (Obs.val (fun a' w' E => ob_fcall 90 _ _ rfl (am2 (E.new (v := (U m_1)) 78 3 (by kernel_rfl) rfl) (E.new (v := (U m_12)) 79 4 (by kernel_rfl) rfl)) (fc90 _ _) (c16.out w'))
    (Obs.alloc (fun a' w' E => ob_alloc (t := 24) (by simp [opAt, execOp, go_sem]))
    (Obs.alloc (fun a' w' E => ob_alloc (t := 24) (by simp [opAt, execOp, go_sem]))
    (Obs.sta rfl (fun a' w' g E ha hr => ob_storea 24 (.tmp 11) (.tmp 77) rfl (ha 11 (by kernel_rfl)) (E.new (v := (U a_14)) 77 2 (by kernel_rfl) rfl) rfl hr (by kernel_rfl) (Nat.le_of_ble_eq_true rfl) (by kernel_rfl) rfl)
    (Obs.sta rfl (fun a' w' g E ha hr => ob_storea 24 (.tmp 12) (.tmp 80) rfl (ha 12 (by kernel_rfl)) (E.new (v := (U d_15)) 80 5 (by kernel_rfl) rfl) rfl hr (by kernel_rfl) (Nat.le_of_ble_eq_true rfl) (by kernel_rfl) rfl)
    Obs.nil)))))))))) ?_
  intro bs w8 aZ haZ F
  have eZ : aZ = ({ tmps := #[(A3 x1 y1 z1), (A3 x2 y2 z2), (PT w.heap.size), (PT (w.heap.size + 1)), (PT (w.heap.size + 1 + 1)), (PT g1_15), (PT g1_16), (PT g1_17), (PT g2_12), (PT g3_12), (PT g4_12), (PT ((bs 6))), (PT ((bs 7))), (PT w.heap.size), (U x1), (PT (w.heap.size + 1)), (U x2), (U m_0), (PO w.heap.size 4), (U y1), (PO (w.heap.size + 1) 4), (U y2), (U m_1), (PO w.heap.size 8), (U z1), (PO (w.heap.size + 1) 8), (U z2), (U m_2), (PT w.heap.size), (U x1), (PO w.heap.size 4), (U y1), (PT (w.heap.size + 1)), (U x2), (PO (w.heap.size + 1) 4), (U y2), (U m_0), (U m_1), (U a_3), (U x_4), (PO w.heap.size 4), (U y1), (PO w.heap.size 8), (U z1), (PO (w.heap.size + 1) 4), (U y2), (PO (w.heap.size + 1) 8), (U z2), (U m_1), (U m_2), (U a_5), (U x_6), (PT w.heap.size), (U x1), (PO w.heap.size 8), (U z1), (PT (w.heap.size + 1)), (U x2), (PO (w.heap.size + 1) 8), (U z2), (U m_0), (U m_2), (U a_7), (U x_8), (U m_0), (U m_0), (U m_0), (U a_9), (U a_10), (U k_11), (U m_2), (U m_12), (U k_11), (U x_8), (U m_13), (U m_1), (U m_12), (U a_14), (U m_1), (U m_12), (U d_15), undef, undef, undef, undef, undef, undef, undef, undef, undef, undef, undef, undef, undef, undef, undef, undef, undef, undef, undef, undef, undef, undef], defers := [] } : Act) := haZ.trans (by kernel_rfl)
  subst eZ
  clear haZ
  obtain ⟨h6, X6⟩ := F.al 6 rfl rfl
  obtain ⟨h7, X7⟩ := F.al 7 rfl rfl
  have n8_6_7 := F.ne 6 7 (by decide) rfl rfl
  replace RR : Hid (RB w w8 [((bs 7), (Ar d_15)), ((bs 6), (Ar a_14)), (g4_12, (Ar m_13)), (g3_12, (Ar x_6)), (g2_12, (Ar x_4)), (g1_17, (Ar m_12)), (g1_16, (Ar m_1)), (g1_15, (Ar a_10)), (w.heap.size + 1 + 1, Z12), (w.heap.size + 1, (T3 x2 y2 z2)), (w.heap.size, (T3 x1 y1 z1))]) := ⟨F.bw, (RowsAt.cons X7 (RowsAt.cons X6 (RowsAt.cons (F.row 8 rfl) (RowsAt.cons (F.row 7 rfl) (RowsAt.cons (F.row 6 rfl) (RowsAt.cons (F.row 5 rfl) (RowsAt.cons (F.row 4 rfl) (RowsAt.cons (F.row 3 rfl) (RowsAt.cons (F.row 2 rfl) (RowsAt.cons (F.row 1 rfl) (RowsAt.cons (F.row 0 rfl) RowsAt.nil)))))))))))⟩
  generalize bs 6 = g8_6 at *
  generalize bs 7 = g8_7 at *
  have k8_6_0 := Nat.lt_of_lt_of_le q0 h6
  have k8_6_1 := Nat.lt_of_lt_of_le q1 h6
  have k8_6_2 := Nat.lt_of_lt_of_le q2 h6
  have k8_6_3 := Nat.lt_of_lt_of_le q3 h6
  have k8_6_4 := Nat.lt_of_lt_of_le q4 h6
  have k8_6_5 := Nat.lt_of_lt_of_le q5 h6
  have k8_6_6 := Nat.lt_of_lt_of_le q6 h6
  have k8_6_7 := Nat.lt_of_lt_of_le q7 h6
  have k8_6_8 := Nat.lt_of_lt_of_le q8 h6
  have k8_7_0 := Nat.lt_of_lt_of_le q0 h7
  have k8_7_1 := Nat.lt_of_lt_of_le q1 h7
  have k8_7_2 := Nat.lt_of_lt_of_le q2 h7
  have k8_7_3 := Nat.lt_of_lt_of_le q3 h7
  have k8_7_4 := Nat.lt_of_lt_of_le q4 h7
  have k8_7_5 := Nat.lt_of_lt_of_le q5 h7
  have k8_7_6 := Nat.lt_of_lt_of_le q6 h7
  have k8_7_7 := Nat.lt_of_lt_of_le q7 h7
  have k8_7_8 := Nat.lt_of_lt_of_le q8 h7
  clear F qT q0 q1 q2 q3 q4 q5 q6 q7 q8 h6 X6 h7 X7
  go_upto_region 9 with fail
  obtain ⟨q10, q9, q8, q7, q6, q5, q4, q3, q2, q1, q0, qT⟩ := RR.out.r.lts
  refine wp_region_told (by kernel_rfl) (by kernel_rfl) (by kernel_rfl) [(w.heap.size, (T3 x1 y1 z1)), (w.heap.size + 1, (T3 x2 y2 z2)), (g1_15, (Ar a_10)), (g1_16, (Ar m_1)), (g1_17, (Ar m_12)), (g2_12, (Ar x_4)), (g3_12, (Ar x_6)), (g4_12, (Ar m_13)), (g8_6, (Ar a_14)), (g8_7, (Ar d_15))]
    [sV (U x_4),
     sV (U d_15),
     sV (U m_16),
     sV (U x_6),
     sV (U m_13),
     sV (U m_17),
     sV (U d_18),
     sV (U a_14),
     sV (U d_15),
     sV (U m_19),
     sV (U a_10),
     sV (U m_13),
     sV (U m_20),
     sV (U a_21),
     sV (U x_6),
     sV (U a_14),
     sV (U m_22),
     sV (U a_10),
     sV (U x_4),
     sV (U m_23),
     sV (U a_24),
     sV (A3 d_18 a_21 a_24),
     sK (w.heap.size + 1 + 1) Z12 (T3 d_18 a_21 a_24)]
    (by kernel_rfl) RR.out.b (RowsAt.cons (RR.out.at 10 rfl) (RowsAt.cons (RR.out.at 9 rfl) (RowsAt.cons (RR.out.at 7 rfl) (RowsAt.cons (RR.out.at 6 rfl) (RowsAt.cons (RR.out.at 5 rfl) (RowsAt.cons (RR.out.at 4 rfl) (RowsAt.cons (RR.out.at 3 rfl) (RowsAt.cons (RR.out.at 2 rfl) (RowsAt.cons (RR.out.at 1 rfl) (RowsAt.cons (RR.out.at 0 rfl) RowsAt.nil)))))))))) (StOk.of [(w.heap.size + 1 + 1, Z12)] rfl (StM.cons (RR.out.at 8 rfl) (by omega) (Apart.cons (by omega) (Apart.cons (by omega) (Apart.cons (by omega) (Apart.cons (by omega) (Apart.cons (by omega) (Apart.cons (by omega) (Apart.cons (by omega) (Apart.cons (by omega) (Apart.cons (by omega) (Apart.cons (by omega) Apart.nil)))))))))) Apart.nil StM.nil))
    (Obs.val (fun a' w' E => ob_loada 24 (.tmp 8) rfl (E.old 8 (by kernel_rfl)) (E.row (g := g2_12) (c := (Ar x_4)) 5 rfl) Tryd.underlying24 rfl (by kernel_rfl) rfl)
    (Obs.val (fun a' w' E => ob_loada 24 (.tmp 12) rfl (E.old 12 (by kernel_rfl)) (E.row (g := g8_7) (c := (Ar d_15)) 9 rfl) Tryd.underlying24 rfl (by kernel_rfl) rfl)
    (Obs.val (fun a' w' E => ob_fcall 67 _ _ rfl (am2 (E.new (v := (U x_4)) 81 0 (by kernel_rfl) rfl) (E.new (v := (U d_15)) 82 1 (by kernel_rfl) rfl)) (fc67 _ _) (c17.out w'))
    (Obs.val (fun a' w' E => ob_loada 24 (.tmp 9) rfl (E.old 9 (by kernel_rfl)) (E.row (g := g3_12) (c := (Ar x_6)) 6 rfl) Tryd.underlying24 rfl (by kernel_rfl) rfl)
    (Obs.val (fun a' w' E => ob_loada 24 (.tmp 10) rfl (E.old 10 (by kernel_rfl)) (E.row (g := g4_12) (c := (Ar m_13)) 7 rfl) Tryd.underlying24 rfl (by kernel_rfl) rfl)
    (Obs.val (fun a' w' E => ob_fcall 67 _ _ rfl (am2 (E.new (v := (U x_6)) 84 3 (by kernel_rfl) rfl) (E.new (v := (U m_13)) 85 4 (by kernel_rfl) rfl)) (fc67 _ _) (c18.out w'))
    (Obs.val (fun a' w' E => ob_fcall 90 _ _ rfl (am2 (E.new (v := (U m_16)) 83 2 (by kernel_rfl) rfl) (E.new (v := (U m_17)) 86 5 (by kernel_rfl) rfl)) (fc90 _ _) (c19.out w'))
    (Obs.val (fun a' w' E => ob_loada 24 (.tmp 11) rfl (E.old 11 (by kernel_rfl)) (E.row (g := g8_6) (c := (Ar a_14)) 8 rfl) Tryd.underlying24 rfl (by kernel_rfl) rfl)
    (Obs.val (fun a' w' E => ob_loada 24 (.tmp 12) rfl (E.old 12 (by kernel_rfl)) (E.row (g := g8_7) (c := (Ar d_15)) 9 rfl) Tryd.underlying24 rfl (by kernel_rfl) rfl)
    (Obs.val (fun a' w' E => ob_fcall 67 _ _ rfl (am2 (E.new (v := (U a_14)) 88 7 (by kernel_rfl) rfl) (E.new (v := (U d_15)) 89 8 (by kernel_rfl) rfl)) (fc67 _ _) (c20.out w'))
    (Obs.val (fun a' w' E => ob_loada 24 (.tmp 5) rfl (E.old 5 (by kernel_rfl)) (E.row (g := g1_15) (c := (Ar a_10)) 2 rfl) Tryd.underlying24 rfl (by kernel_rfl) rfl)
    (Obs.val (fun a' w' E => ob_loada 24 (.tmp 10) rfl (E.old 10 (by kernel_rfl)) (E.row (g := g4_12) (c := (Ar m_13)) 7 rfl) Tryd.underlying24 rfl (by kernel_rfl) rfl)
    (Obs.val (fun a' w' E => ob_fcall 67 _ _ rfl (am2 (E.new (v := (U a_10)) 91 10 (by kernel_rfl) rfl) (E.new (v := (U m_13)) 92 11 (by kernel_rfl) rfl)) (fc67 _ _) (c21.out w'))
    (Obs.val (fun a' w' E => ob_fcall 89 _ _ rfl (am2 (E.new (v := (U m_19)) 90 9 (by kernel_rfl) rfl) (E.new (v := (U m_20)) 93 12 (by kernel_rfl) rfl)) (fc89 _ _) (c22.out w'))
    (Obs.val (fun a' w' E => ob_loada 24 (.tmp 9) rfl (E.old 9 (by kernel_rfl)) (E.row (g := g3_12) (c := (Ar x_6)) 6 rfl) Tryd.underlying24 rfl (by kernel_rfl) rfl)
    (Obs.val (fun a' w' E => ob_loada 24 (.tmp 11) rfl (E.old 11 (by kernel_rfl)) (E.row (g := g8_6) (c := (Ar a_14)) 8 rfl) Tryd.underlying24 rfl (by kernel_rfl) rfl)
    (Obs.val (fun a' w' E => ob_fcall 67 _ _ rfl (am2 (E.new (v := (U x_6)) 95 14 (by kernel_rfl) rfl) (E.new (v := (U a_14)) 96 15 (by kernel_rfl) rfl)) (fc67 _ _) (c23.out w'))
    (Obs.val (fun a' w' E => ob_loada 24 (.tmp 5) rfl (E.old 5 (by kernel_rfl)) (E.row (g := g1_15) (c := (Ar a_10)) 2 rfl) Tryd.underlying24 rfl (by kernel_rfl) rfl)
    (Obs.val (fun a' w' E => ob_loada 24 (.tmp 8) rfl (E.old 8 (by kernel_rfl)) (E.row (g := g2_12) (c := (Ar x_4)) 5 rfl) Tryd.underlying24 rfl (by kernel_rfl) rfl)
    (Obs.val (fun a' w' E => ob_fcall 67 _ _ rfl (am2 (E.new (v := (U a_10)) 98 17 (by kernel_rfl) rfl) (E.new (v := (U x_4)) 99 18 (by kernel_rfl) rfl)) (fc67 _ _) (c24.out w'))
    (Obs.val (fun a' w' E => ob_fcall 89 _ _ rfl (am2 (E.new (v := (U m_22)) 97 16 (by kernel_rfl) rfl) (E.new (v := (U m_23)) 100 19 (by kernel_rfl) rfl)) (fc89 _ _) (c25.out w'))
    (Obs.val (fun a' w' E => ob_build 67 _ rfl (pm3 (E.new (v := (U d_18)) 87 6 (by kernel_rfl) rfl) (E.new (v := (U a_21)) 94 13 (by kernel_rfl) rfl) (E.new (v := (U a_24)) 101 20 (by kernel_rfl) rfl)) (bd67_0U_1U_2U _ _ _ w'))
    (Obs.stk (fun a' w' E hr => ob_storea 67 (.tmp 4) (.tmp 102) rfl (E.old 4 (by kernel_rfl)) (E.new (v := (A3 d_18 a_21 a_24)) 102 21 (by kernel_rfl) rfl) rfl hr (by kernel_rfl) (Nat.le_of_ble_eq_true rfl) (by kernel_rfl) rfl)
    Obs.nil))))))))))))))))))))))) ?_
  intro bs w9 aZ haZ F
  have eZ : aZ = ({ tmps := #[(A3 x1 y1 z1), (A3 x2 y2 z2), (PT w.heap.size), (PT (w.heap.size + 1)), (PT (w.heap.size + 1 + 1)), (PT g1_15), (PT g1_16), (PT g1_17), (PT g2_12), (PT g3_12), (PT g4_12), (PT g8_6), (PT g8_7), (PT w.heap.size), (U x1), (PT (w.heap.size + 1)), (U x2), (U m_0), (PO w.heap.size 4), (U y1), (PO (w.heap.size + 1) 4), (U y2), (U m_1), (PO w.heap.size 8), (U z1), (PO (w.heap.size + 1) 8), (U z2), (U m_2), (PT w.heap.size), (U x1), (PO w.heap.size 4), (U y1), (PT (w.heap.size + 1)), (U x2), (PO (w.heap.size + 1) 4), (U y2), (U m_0), (U m_1), (U a_3), (U x_4), (PO w.heap.size 4), (U y1), (PO w.heap.size 8), (U z1), (PO (w.heap.size + 1) 4), (U y2), (PO (w.heap.size + 1) 8), (U z2), (U m_1), (U m_2), (U a_5), (U x_6), (PT w.heap.size), (U x1), (PO w.heap.size 8), (U z1), (PT (w.heap.size + 1)), (U x2), (PO (w.heap.size + 1) 8), (U z2), (U m_0), (U m_2), (U a_7), (U x_8), (U m_0), (U m_0), (U m_0), (U a_9), (U a_10), (U k_11), (U m_2), (U m_12), (U k_11), (U x_8), (U m_13), (U m_1), (U m_12), (U a_14), (U m_1), (U m_12), (U d_15), (U x_4), (U d_15), (U m_16), (U x_6), (U m_13), (U m_17), (U d_18), (U a_14), (U d_15), (U m_19), (U a_10), (U m_13), (U m_20), (U a_21), (U x_6), (U a_14), (U m_22), (U a_10), (U x_4), (U m_23), (U a_24), (A3 d_18 a_21 a_24)], defers := [] } : Act) := haZ.trans (by kernel_rfl)
  subst eZ
  clear haZ
  replace RR : Hid (RB w w9 [(g8_7, (Ar d_15)), (g8_6, (Ar a_14)), (g4_12, (Ar m_13)), (g3_12, (Ar x_6)), (g2_12, (Ar x_4)), (g1_17, (Ar m_12)), (g1_16, (Ar m_1)), (g1_15, (Ar a_10)), (w.heap.size + 1 + 1, (T3 d_18 a_21 a_24)), (w.heap.size + 1, (T3 x2 y2 z2)), (w.heap.size, (T3 x1 y1 z1))]) := ⟨F.bw, (RowsAt.cons (F.row 9 rfl) (RowsAt.cons (F.row 8 rfl) (RowsAt.cons (F.row 7 rfl) (RowsAt.cons (F.row 6 rfl) (RowsAt.cons (F.row 5 rfl) (RowsAt.cons (F.row 4 rfl) (RowsAt.cons (F.row 3 rfl) (RowsAt.cons (F.row 2 rfl) (RowsAt.cons (F.sk 22 rfl) (RowsAt.cons (F.row 1 rfl) (RowsAt.cons (F.row 0 rfl) RowsAt.nil)))))))))))⟩
  clear F qT q0 q1 q2 q3 q4 q5 q6 q7 q8 q9 q10
  go_wp2
  exact bodyPost_ret (v := (A3 d_18 a_21 a_24)) (resA (p := 4) (ty := 67) rfl (g := w.heap.size + 1 + 1) rfl (RR.out.at 8 rfl) Tryd.underlying67 rfl (by kernel_rfl)) rfl ⟨rfl, RR.out.b⟩
end Go.Proofs.YtpdoonofipcbeaaDoor
