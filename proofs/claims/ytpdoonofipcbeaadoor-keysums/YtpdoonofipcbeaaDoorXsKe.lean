/- Raw walks of KeySums, over letters. -/
import Derived.Test.YtpdoonofipcbeaaDoorXsMC
import Derived.Test.YtpdoonofipcbeaaDoorXsQc
import Derived.Test.YtpdoonofipcbeaaDoorXsEq
import Derived.WalkSmall
import Derived.Deep.Cut
import Derived.Deep.Light
namespace Go.Proofs.YtpdoonofipcbeaaDoor
open Go.RowKit Go.Sort
set_option linter.unusedVariables false
set_option maxRecDepth 100000 in
set_option maxHeartbeats 4000000 in
theorem sums_a (n k m s od px py qx qy rx ry : Nat) (pn qn rn ov : Bool) (hP : Does 7 #[(U k)] (.tuple #[(A9 0 0 false), (.int .i64 5)])) (hS : Does 13 #[(B n)] (U m)) (hQ : Does 7 #[(U m)] (.tuple #[(A9 qx qy qn), (.int .i64 0)])) (hA : Does 22 #[(U k), (U m)] (.tuple #[(U s), (.bool ov)])) (hW : DoesT 18 #[] (.bool true)) 
    (w : World) (ht : Tabs w ki) : Calls Tryd.prog 6 #[(B n), (U k)] w fun e w' => e = .returned (.bool true) ∧ Below w.heap.size w w' := by
  have HT : Hid (Tabs w ki) := ht
  clear ht
  go_enter Tryd.func6, Tryd.ntmps6
  go_upto_region 1 with fail
  refine name_world _ ?_
  intro wF hF0
  have RR : Hid (RB w wF [(w.heap.size, (Ar k))]) := by rw [hF0]; exact (rbN (rb0 w) (by simp))
  clear hF0
  obtain ⟨q0, qT⟩ := RR.out.r.lts
  refine wp_region_told (by kernel_rfl) (by kernel_rfl) (by kernel_rfl) [(w.heap.size, (Ar k))]
    [sV (U k),
     sV (.tuple #[(A9 0 0 false), (.int .i64 5)]),
     sV (.tuple #[(A9 0 0 false), (.int .i64 5)]),
     sV (A9 0 0 false),
     sV (.int .i64 5),
     sA (fun g => .pointer (some ⟨g, 0, none⟩)) 6 Z9 (P9 0 0 false),
     sS 5,
     sV (.int .i64 5)]
    (by kernel_rfl) RR.out.b (RowsAt.cons (RR.out.at 0 rfl) RowsAt.nil) (StOk.of [] rfl StM.nil)
    (Obs.val (fun a' w' E => ob_loada 24 (.tmp 3) rfl (E.old 3 (by kernel_rfl)) (E.row (g := w.heap.size) (c := (Ar k)) 0 rfl) Tryd.underlying24 rfl (by kernel_rfl) rfl)
    (Obs.val (fun a' w' E => ob_fcall 7 _ _ rfl (am1 (E.new (v := (U k)) 14 0 (by kernel_rfl) rfl)) (fc7 _ _) (hP.out w'))
    (Obs.val (fun a' w' E => ob_move (.tmp 15) rfl (E.new (v := (.tuple #[(A9 0 0 false), (.int .i64 5)])) 15 1 (by kernel_rfl) rfl))
    (Obs.val (fun a' w' E => ob_extract (.tmp 13) 0 rfl (E.new (v := (.tuple #[(A9 0 0 false), (.int .i64 5)])) 13 2 (by kernel_rfl) rfl) rfl)
    (Obs.val (fun a' w' E => ob_extract (.tmp 13) 1 rfl (E.new (v := (.tuple #[(A9 0 0 false), (.int .i64 5)])) 13 2 (by kernel_rfl) rfl) rfl)
    (Obs.alloc (fun a' w' E => ob_alloc (t := 26) (by simp [opAt, execOp, go_sem]))
    (Obs.sta rfl (fun a' w' g E ha hr => ob_storea 26 (.tmp 5) (.tmp 16) rfl (ha 5 (by kernel_rfl)) (E.new (v := (A9 0 0 false)) 16 3 (by kernel_rfl) rfl) rfl hr (by kernel_rfl) (Nat.le_of_ble_eq_true rfl) (by kernel_rfl) rfl)
    (Obs.val (fun a' w' E => ob_assign (.tmp 17) rfl (E.new (v := (.int .i64 5)) 17 4 (by kernel_rfl) rfl))
    Obs.nil)))))))) ?_
  intro bs w1 aZ haZ F
  have eZ : aZ = ({ tmps := #[(B n), (U k), undef, (PT w.heap.size), (.bool false), (PT ((bs 5))), (.int .i64 5), undef, undef, undef, undef, undef, undef, (.tuple #[(A9 0 0 false), (.int .i64 5)]), (U k), (.tuple #[(A9 0 0 false), (.int .i64 5)]), (A9 0 0 false), (.int .i64 5), undef, undef, undef, undef, undef, undef, undef, undef, undef, undef, undef, undef, undef, undef, undef, undef, undef, undef, undef, undef, undef, undef, undef, undef, undef, undef, undef, undef, undef, undef, undef, undef, undef, undef, undef, undef, undef, undef, undef, undef, undef, undef, undef, undef, undef, undef, undef, undef, undef, undef], defers := [] } : Act) := haZ.trans (by kernel_rfl)
  subst eZ
  clear haZ
  obtain ⟨h5, X5⟩ := F.al 5 rfl rfl
  replace RR : Hid (RB w w1 [((bs 5), (P9 0 0 false)), (w.heap.size, (Ar k))]) := ⟨F.bw, (RowsAt.cons X5 (RowsAt.cons (F.row 0 rfl) RowsAt.nil))⟩
  generalize bs 5 = g1_5 at *
  have k1_5_0 := Nat.lt_of_lt_of_le q0 h5
  clear F qT q0 h5 X5
  clear wF
  go_upto_region 2 with fail
  obtain ⟨q1, q0, qT⟩ := RR.out.r.lts
  refine wp_region_told (by kernel_rfl) (by kernel_rfl) (by kernel_rfl) [(w.heap.size, (Ar k)), (g1_5, (P9 0 0 false))]
    [sV (B n),
     sV (U m),
     sV (.tuple #[(A9 qx qy qn), (.int .i64 0)]),
     sV (.tuple #[(A9 qx qy qn), (.int .i64 0)]),
     sV (A9 qx qy qn),
     sV (.int .i64 0),
     sA (fun g => .pointer (some ⟨g, 0, none⟩)) 7 Z9 (P9 qx qy qn),
     sS 6,
     sV (.int .i64 0)]
    (by kernel_rfl) RR.out.b (RowsAt.cons (RR.out.at 1 rfl) (RowsAt.cons (RR.out.at 0 rfl) RowsAt.nil)) (StOk.of [] rfl StM.nil)
    (Obs.val (fun a' w' E => ob_move (.tmp 0) rfl (E.old 0 (by kernel_rfl)))
    (Obs.val (fun a' w' E => ob_fcall 13 _ _ rfl (am1 (E.new (v := (B n)) 19 0 (by kernel_rfl) rfl)) (fc13 _ _) (hS.out w'))
    (Obs.val (fun a' w' E => ob_fcall 7 _ _ rfl (am1 (E.new (v := (U m)) 20 1 (by kernel_rfl) rfl)) (fc7 _ _) (hQ.out w'))
    (Obs.val (fun a' w' E => ob_move (.tmp 21) rfl (E.new (v := (.tuple #[(A9 qx qy qn), (.int .i64 0)])) 21 2 (by kernel_rfl) rfl))
    (Obs.val (fun a' w' E => ob_extract (.tmp 18) 0 rfl (E.new (v := (.tuple #[(A9 qx qy qn), (.int .i64 0)])) 18 3 (by kernel_rfl) rfl) rfl)
    (Obs.val (fun a' w' E => ob_extract (.tmp 18) 1 rfl (E.new (v := (.tuple #[(A9 qx qy qn), (.int .i64 0)])) 18 3 (by kernel_rfl) rfl) rfl)
    (Obs.alloc (fun a' w' E => ob_alloc (t := 26) (by simp [opAt, execOp, go_sem]))
    (Obs.sta rfl (fun a' w' g E ha hr => ob_storea 26 (.tmp 7) (.tmp 22) rfl (ha 7 (by kernel_rfl)) (E.new (v := (A9 qx qy qn)) 22 4 (by kernel_rfl) rfl) rfl hr (by kernel_rfl) (Nat.le_of_ble_eq_true rfl) (by kernel_rfl) rfl)
    (Obs.val (fun a' w' E => ob_assign (.tmp 23) rfl (E.new (v := (.int .i64 0)) 23 5 (by kernel_rfl) rfl))
    Obs.nil))))))))) ?_
  intro bs w2 aZ haZ F
  have eZ : aZ = ({ tmps := #[(B n), (U k), undef, (PT w.heap.size), (.bool false), (PT g1_5), (.int .i64 5), (PT ((bs 6))), (.int .i64 0), undef, undef, undef, undef, (.tuple #[(A9 0 0 false), (.int .i64 5)]), (U k), (.tuple #[(A9 0 0 false), (.int .i64 5)]), (A9 0 0 false), (.int .i64 5), (.tuple #[(A9 qx qy qn), (.int .i64 0)]), (B n), (U m), (.tuple #[(A9 qx qy qn), (.int .i64 0)]), (A9 qx qy qn), (.int .i64 0), undef, undef, undef, undef, undef, undef, undef, undef, undef, undef, undef, undef, undef, undef, undef, undef, undef, undef, undef, undef, undef, undef, undef, undef, undef, undef, undef, undef, undef, undef, undef, undef, undef, undef, undef, undef, undef, undef, undef, undef, undef, undef, undef, undef], defers := [] } : Act) := haZ.trans (by kernel_rfl)
  subst eZ
  clear haZ
  obtain ⟨h6, X6⟩ := F.al 6 rfl rfl
  replace RR : Hid (RB w w2 [((bs 6), (P9 qx qy qn)), (g1_5, (P9 0 0 false)), (w.heap.size, (Ar k))]) := ⟨F.bw, (RowsAt.cons X6 (RowsAt.cons (F.row 1 rfl) (RowsAt.cons (F.row 0 rfl) RowsAt.nil)))⟩
  generalize bs 6 = g2_6 at *
  have k2_6_0 := Nat.lt_of_lt_of_le q0 h6
  have k2_6_1 := Nat.lt_of_lt_of_le q1 h6
  clear F qT q0 q1 h6 X6
  go_upto_region 3 with fail
  obtain ⟨q2, q1, q0, qT⟩ := RR.out.r.lts
  refine wp_region_told (by kernel_rfl) (by kernel_rfl) (by kernel_rfl) [(w.heap.size, (Ar k)), (g1_5, (P9 0 0 false)), (g2_6, (P9 qx qy qn))]
    [sV (U k),
     sV (B n),
     sV (U m),
     sV (.tuple #[(U s), (.bool ov)]),
     sV (.tuple #[(U s), (.bool ov)]),
     sV (U s),
     sV (.bool ov),
     sA (fun g => .pointer (some ⟨g, 0, none⟩)) 8 Zr (Ar s),
     sS 7,
     sV (.bool ov)]
    (by kernel_rfl) RR.out.b (RowsAt.cons (RR.out.at 2 rfl) (RowsAt.cons (RR.out.at 1 rfl) (RowsAt.cons (RR.out.at 0 rfl) RowsAt.nil))) (StOk.of [] rfl StM.nil)
    (Obs.val (fun a' w' E => ob_loada 24 (.tmp 3) rfl (E.old 3 (by kernel_rfl)) (E.row (g := w.heap.size) (c := (Ar k)) 0 rfl) Tryd.underlying24 rfl (by kernel_rfl) rfl)
    (Obs.val (fun a' w' E => ob_move (.tmp 0) rfl (E.old 0 (by kernel_rfl)))
    (Obs.val (fun a' w' E => ob_fcall 13 _ _ rfl (am1 (E.new (v := (B n)) 26 1 (by kernel_rfl) rfl)) (fc13 _ _) (hS.out w'))
    (Obs.val (fun a' w' E => ob_fcall 22 _ _ rfl (am2 (E.new (v := (U k)) 25 0 (by kernel_rfl) rfl) (E.new (v := (U m)) 27 2 (by kernel_rfl) rfl)) (fc22 _ _) (hA.out w'))
    (Obs.val (fun a' w' E => ob_move (.tmp 28) rfl (E.new (v := (.tuple #[(U s), (.bool ov)])) 28 3 (by kernel_rfl) rfl))
    (Obs.val (fun a' w' E => ob_extract (.tmp 24) 0 rfl (E.new (v := (.tuple #[(U s), (.bool ov)])) 24 4 (by kernel_rfl) rfl) rfl)
    (Obs.val (fun a' w' E => ob_extract (.tmp 24) 1 rfl (E.new (v := (.tuple #[(U s), (.bool ov)])) 24 4 (by kernel_rfl) rfl) rfl)
    (Obs.alloc (fun a' w' E => ob_alloc (t := 24) (by simp [opAt, execOp, go_sem]))
    (Obs.sta rfl (fun a' w' g E ha hr => ob_storea 24 (.tmp 9) (.tmp 29) rfl (ha 9 (by kernel_rfl)) (E.new (v := (U s)) 29 5 (by kernel_rfl) rfl) rfl hr (by kernel_rfl) (Nat.le_of_ble_eq_true rfl) (by kernel_rfl) rfl)
    (Obs.val (fun a' w' E => ob_assign (.tmp 30) rfl (E.new (v := (.bool ov)) 30 6 (by kernel_rfl) rfl))
    Obs.nil)))))))))) ?_
  intro bs w3 aZ haZ F
  have eZ : aZ = ({ tmps := #[(B n), (U k), undef, (PT w.heap.size), (.bool false), (PT g1_5), (.int .i64 5), (PT g2_6), (.int .i64 0), (PT ((bs 7))), (.bool ov), undef, undef, (.tuple #[(A9 0 0 false), (.int .i64 5)]), (U k), (.tuple #[(A9 0 0 false), (.int .i64 5)]), (A9 0 0 false), (.int .i64 5), (.tuple #[(A9 qx qy qn), (.int .i64 0)]), (B n), (U m), (.tuple #[(A9 qx qy qn), (.int .i64 0)]), (A9 qx qy qn), (.int .i64 0), (.tuple #[(U s), (.bool ov)]), (U k), (B n), (U m), (.tuple #[(U s), (.bool ov)]), (U s), (.bool ov), undef, undef, undef, undef, undef, undef, undef, undef, undef, undef, undef, undef, undef, undef, undef, undef, undef, undef, undef, undef, undef, undef, undef, undef, undef, undef, undef, undef, undef, undef, undef, undef, undef, undef, undef, undef, undef], defers := [] } : Act) := haZ.trans (by kernel_rfl)
  subst eZ
  clear haZ
  obtain ⟨h7, X7⟩ := F.al 7 rfl rfl
  replace RR : Hid (RB w w3 [((bs 7), (Ar s)), (g2_6, (P9 qx qy qn)), (g1_5, (P9 0 0 false)), (w.heap.size, (Ar k))]) := ⟨F.bw, (RowsAt.cons X7 (RowsAt.cons (F.row 2 rfl) (RowsAt.cons (F.row 1 rfl) (RowsAt.cons (F.row 0 rfl) RowsAt.nil))))⟩
  generalize bs 7 = g3_7 at *
  have k3_7_0 := Nat.lt_of_lt_of_le q0 h7
  have k3_7_1 := Nat.lt_of_lt_of_le q1 h7
  have k3_7_2 := Nat.lt_of_lt_of_le q2 h7
  clear F qT q0 q1 q2 h7 X7
  go_upto_region 4 with fail
  obtain ⟨q3, q2, q1, q0, qT⟩ := RR.out.r.lts
  refine wp_region_told (by kernel_rfl) (by kernel_rfl) (by kernel_rfl) [(w.heap.size, (Ar k)), (g1_5, (P9 0 0 false)), (g2_6, (P9 qx qy qn)), (g3_7, (Ar s))]
    [sV (.int .i64 5),
     sV (.bool true),
     sV (.bool true),
     sV undef,
     sV (.bool true),
     sV (.bool true),
     sV undef,
     sV undef,
     sV undef,
     sV undef,
     sV (.bool true)]
    (by kernel_rfl) RR.out.b (RowsAt.cons (RR.out.at 3 rfl) (RowsAt.cons (RR.out.at 2 rfl) (RowsAt.cons (RR.out.at 1 rfl) (RowsAt.cons (RR.out.at 0 rfl) RowsAt.nil)))) (StOk.of [] rfl StM.nil)
    (Obs.val (fun a' w' E => ob_move (.tmp 6) rfl (E.old 6 (by kernel_rfl)))
    (Obs.val (fun a' w' E => ob_binOp .neq 27 (.tmp 31) (.const (.int .i64 0)) 27 rfl (E.new (v := (.int .i64 5)) 31 0 (by kernel_rfl) rfl) (evc a' (.int .i64 0)) (by simp [go_sem]))
    (Obs.val (fun a' w' E => ob_move (.tmp 32) rfl (E.new (v := (.bool true)) 32 1 (by kernel_rfl) rfl))
    (Obs.skip rfl rfl (fun a' w' E => E.new 33 2 (by kernel_rfl) rfl) (by decide) 
    (Obs.val (fun a' w' E => ob_pick (.tmp 33) (.const (.bool true)) (.tmp 34) rfl (E.new (v := (.bool true)) 33 2 (by kernel_rfl) rfl) (evc a' (.bool true)))
    (Obs.val (fun a' w' E => ob_move (.tmp 35) rfl (E.new (v := (.bool true)) 35 4 (by kernel_rfl) rfl))
    (Obs.skip rfl rfl (fun a' w' E => E.new 36 5 (by kernel_rfl) rfl) (by decide) 
    (Obs.skip rfl rfl (fun a' w' E => E.new 36 5 (by kernel_rfl) rfl) (by decide) 
    (Obs.skip rfl rfl (fun a' w' E => E.new 36 5 (by kernel_rfl) rfl) (by decide) 
    (Obs.skip rfl rfl (fun a' w' E => E.new 36 5 (by kernel_rfl) rfl) (by decide) 
    (Obs.val (fun a' w' E => ob_pick (.tmp 36) (.const (.bool true)) (.tmp 40) rfl (E.new (v := (.bool true)) 36 5 (by kernel_rfl) rfl) (evc a' (.bool true)))
    Obs.nil))))))))))) ?_
  intro bs w4 aZ haZ F
  have eZ : aZ = ({ tmps := #[(B n), (U k), undef, (PT w.heap.size), (.bool false), (PT g1_5), (.int .i64 5), (PT g2_6), (.int .i64 0), (PT g3_7), (.bool ov), undef, undef, (.tuple #[(A9 0 0 false), (.int .i64 5)]), (U k), (.tuple #[(A9 0 0 false), (.int .i64 5)]), (A9 0 0 false), (.int .i64 5), (.tuple #[(A9 qx qy qn), (.int .i64 0)]), (B n), (U m), (.tuple #[(A9 qx qy qn), (.int .i64 0)]), (A9 qx qy qn), (.int .i64 0), (.tuple #[(U s), (.bool ov)]), (U k), (B n), (U m), (.tuple #[(U s), (.bool ov)]), (U s), (.bool ov), (.int .i64 5), (.bool true), (.bool true), undef, (.bool true), (.bool true), undef, undef, undef, undef, (.bool true), undef, undef, undef, undef, undef, undef, undef, undef, undef, undef, undef, undef, undef, undef, undef, undef, undef, undef, undef, undef, undef, undef, undef, undef, undef, undef], defers := [] } : Act) := haZ.trans (by kernel_rfl)
  subst eZ
  clear haZ
  replace RR : Hid (RB w w4 [(g3_7, (Ar s)), (g2_6, (P9 qx qy qn)), (g1_5, (P9 0 0 false)), (w.heap.size, (Ar k))]) := ⟨F.bw, (RowsAt.cons (F.row 3 rfl) (RowsAt.cons (F.row 2 rfl) (RowsAt.cons (F.row 1 rfl) (RowsAt.cons (F.row 0 rfl) RowsAt.nil))))⟩
  clear F qT q0 q1 q2 q3
  go_upto_region 5 with fail
  obtain ⟨q3, q2, q1, q0, qT⟩ := RR.out.r.lts
  refine wp_region_told (by kernel_rfl) (by kernel_rfl) (by kernel_rfl) [(w.heap.size, (Ar k)), (g1_5, (P9 0 0 false)), (g2_6, (P9 qx qy qn)), (g3_7, (Ar s))]
    [sV (.int .i64 0),
     sV (.bool true),
     sV (.bool true),
     sV (.bool true),
     sV (.bool true),
     sV (.bool true)]
    (by kernel_rfl) RR.out.b (RowsAt.cons (RR.out.at 3 rfl) (RowsAt.cons (RR.out.at 2 rfl) (RowsAt.cons (RR.out.at 1 rfl) (RowsAt.cons (RR.out.at 0 rfl) RowsAt.nil)))) (StOk.of [] rfl StM.nil)
    (Obs.val (fun a' w' E => ob_move (.tmp 8) rfl (E.old 8 (by kernel_rfl)))
    (Obs.val (fun a' w' E => ob_binOp .eql 27 (.tmp 42) (.const (.int .i64 0)) 27 rfl (E.new (v := (.int .i64 0)) 42 0 (by kernel_rfl) rfl) (evc a' (.int .i64 0)) (by simp [go_sem]))
    (Obs.val (fun a' w' E => ob_move (.tmp 43) rfl (E.new (v := (.bool true)) 43 1 (by kernel_rfl) rfl))
    (Obs.gval rfl rfl (fun a' w' E => E.new 44 2 (by kernel_rfl) rfl) (fun a' w' E => ob_fcall 18 _ _ rfl (am0) (fc18 _ _) (tbl hW HT.out E.bw w'))
    (Obs.val (fun a' w' E => ob_pick (.tmp 44) (.tmp 45) (.const (.bool false)) rfl (E.new (v := (.bool true)) 44 2 (by kernel_rfl) rfl) (E.new (v := (.bool true)) 45 3 (by kernel_rfl) rfl))
    (Obs.val (fun a' w' E => ob_assign (.tmp 46) rfl (E.new (v := (.bool true)) 46 4 (by kernel_rfl) rfl))
    Obs.nil)))))) ?_
  intro bs w5 aZ haZ F
  have eZ : aZ = ({ tmps := #[(B n), (U k), undef, (PT w.heap.size), (.bool true), (PT g1_5), (.int .i64 5), (PT g2_6), (.int .i64 0), (PT g3_7), (.bool ov), undef, undef, (.tuple #[(A9 0 0 false), (.int .i64 5)]), (U k), (.tuple #[(A9 0 0 false), (.int .i64 5)]), (A9 0 0 false), (.int .i64 5), (.tuple #[(A9 qx qy qn), (.int .i64 0)]), (B n), (U m), (.tuple #[(A9 qx qy qn), (.int .i64 0)]), (A9 qx qy qn), (.int .i64 0), (.tuple #[(U s), (.bool ov)]), (U k), (B n), (U m), (.tuple #[(U s), (.bool ov)]), (U s), (.bool ov), (.int .i64 5), (.bool true), (.bool true), undef, (.bool true), (.bool true), undef, undef, undef, undef, (.bool true), (.int .i64 0), (.bool true), (.bool true), (.bool true), (.bool true), undef, undef, undef, undef, undef, undef, undef, undef, undef, undef, undef, undef, undef, undef, undef, undef, undef, undef, undef, undef, undef], defers := [] } : Act) := haZ.trans (by kernel_rfl)
  subst eZ
  clear haZ
  replace RR : Hid (RB w w5 [(g3_7, (Ar s)), (g2_6, (P9 qx qy qn)), (g1_5, (P9 0 0 false)), (w.heap.size, (Ar k))]) := ⟨F.bw, (RowsAt.cons (F.row 3 rfl) (RowsAt.cons (F.row 2 rfl) (RowsAt.cons (F.row 1 rfl) (RowsAt.cons (F.row 0 rfl) RowsAt.nil))))⟩
  clear F qT q0 q1 q2 q3
  go_wp2
  exact bodyPost_ret (v := (.bool true)) (by simp [results, Tryd.results6, go_sem]) rfl ⟨rfl, RR.out.b⟩
set_option maxRecDepth 100000 in
set_option maxHeartbeats 4000000 in
theorem sums_b (n k m s od px py qx qy rx ry : Nat) (pn qn rn ov : Bool) (hP : Does 7 #[(U k)] (.tuple #[(A9 px py pn), (.int .i64 0)])) (hS : Does 13 #[(B n)] (U m)) (hQ : Does 7 #[(U m)] (.tuple #[(A9 qx qy qn), (.int .i64 0)])) (hA : Does 22 #[(U k), (U m)] (.tuple #[(U s), (.bool true)])) (hW : DoesT 18 #[] (.bool true)) 
    (w : World) (ht : Tabs w ki) : Calls Tryd.prog 6 #[(B n), (U k)] w fun e w' => e = .returned (.bool true) ∧ Below w.heap.size w w' := by
  have HT : Hid (Tabs w ki) := ht
  clear ht
  go_enter Tryd.func6, Tryd.ntmps6
  go_upto_region 1 with fail
  refine name_world _ ?_
  intro wF hF0
  have RR : Hid (RB w wF [(w.heap.size, (Ar k))]) := by rw [hF0]; exact (rbN (rb0 w) (by simp))
  clear hF0
  obtain ⟨q0, qT⟩ := RR.out.r.lts
  refine wp_region_told (by kernel_rfl) (by kernel_rfl) (by kernel_rfl) [(w.heap.size, (Ar k))]
    [sV (U k),
     sV (.tuple #[(A9 px py pn), (.int .i64 0)]),
     sV (.tuple #[(A9 px py pn), (.int .i64 0)]),
     sV (A9 px py pn),
     sV (.int .i64 0),
     sA (fun g => .pointer (some ⟨g, 0, none⟩)) 6 Z9 (P9 px py pn),
     sS 5,
     sV (.int .i64 0)]
    (by kernel_rfl) RR.out.b (RowsAt.cons (RR.out.at 0 rfl) RowsAt.nil) (StOk.of [] rfl StM.nil)
    (Obs.val (fun a' w' E => ob_loada 24 (.tmp 3) rfl (E.old 3 (by kernel_rfl)) (E.row (g := w.heap.size) (c := (Ar k)) 0 rfl) Tryd.underlying24 rfl (by kernel_rfl) rfl)
    (Obs.val (fun a' w' E => ob_fcall 7 _ _ rfl (am1 (E.new (v := (U k)) 14 0 (by kernel_rfl) rfl)) (fc7 _ _) (hP.out w'))
    (Obs.val (fun a' w' E => ob_move (.tmp 15) rfl (E.new (v := (.tuple #[(A9 px py pn), (.int .i64 0)])) 15 1 (by kernel_rfl) rfl))
    (Obs.val (fun a' w' E => ob_extract (.tmp 13) 0 rfl (E.new (v := (.tuple #[(A9 px py pn), (.int .i64 0)])) 13 2 (by kernel_rfl) rfl) rfl)
    (Obs.val (fun a' w' E => ob_extract (.tmp 13) 1 rfl (E.new (v := (.tuple #[(A9 px py pn), (.int .i64 0)])) 13 2 (by kernel_rfl) rfl) rfl)
    (Obs.alloc (fun a' w' E => ob_alloc (t := 26) (by simp [opAt, execOp, go_sem]))
    (Obs.sta rfl (fun a' w' g E ha hr => ob_storea 26 (.tmp 5) (.tmp 16) rfl (ha 5 (by kernel_rfl)) (E.new (v := (A9 px py pn)) 16 3 (by kernel_rfl) rfl) rfl hr (by kernel_rfl) (Nat.le_of_ble_eq_true rfl) (by kernel_rfl) rfl)
    (Obs.val (fun a' w' E => ob_assign (.tmp 17) rfl (E.new (v := (.int .i64 0)) 17 4 (by kernel_rfl) rfl))
    Obs.nil)))))))) ?_
  intro bs w1 aZ haZ F
  have eZ : aZ = ({ tmps := #[(B n), (U k), undef, (PT w.heap.size), (.bool false), (PT ((bs 5))), (.int .i64 0), undef, undef, undef, undef, undef, undef, (.tuple #[(A9 px py pn), (.int .i64 0)]), (U k), (.tuple #[(A9 px py pn), (.int .i64 0)]), (A9 px py pn), (.int .i64 0), undef, undef, undef, undef, undef, undef, undef, undef, undef, undef, undef, undef, undef, undef, undef, undef, undef, undef, undef, undef, undef, undef, undef, undef, undef, undef, undef, undef, undef, undef, undef, undef, undef, undef, undef, undef, undef, undef, undef, undef, undef, undef, undef, undef, undef, undef, undef, undef, undef, undef], defers := [] } : Act) := haZ.trans (by kernel_rfl)
  subst eZ
  clear haZ
  obtain ⟨h5, X5⟩ := F.al 5 rfl rfl
  replace RR : Hid (RB w w1 [((bs 5), (P9 px py pn)), (w.heap.size, (Ar k))]) := ⟨F.bw, (RowsAt.cons X5 (RowsAt.cons (F.row 0 rfl) RowsAt.nil))⟩
  generalize bs 5 = g1_5 at *
  have k1_5_0 := Nat.lt_of_lt_of_le q0 h5
  clear F qT q0 h5 X5
  clear wF
  go_upto_region 2 with fail
  obtain ⟨q1, q0, qT⟩ := RR.out.r.lts
  refine wp_region_told (by kernel_rfl) (by kernel_rfl) (by kernel_rfl) [(w.heap.size, (Ar k)), (g1_5, (P9 px py pn))]
    [sV (B n),
     sV (U m),
     sV (.tuple #[(A9 qx qy qn), (.int .i64 0)]),
     sV (.tuple #[(A9 qx qy qn), (.int .i64 0)]),
     sV (A9 qx qy qn),
     sV (.int .i64 0),
     sA (fun g => .pointer (some ⟨g, 0, none⟩)) 7 Z9 (P9 qx qy qn),
     sS 6,
     sV (.int .i64 0)]
    (by kernel_rfl) RR.out.b (RowsAt.cons (RR.out.at 1 rfl) (RowsAt.cons (RR.out.at 0 rfl) RowsAt.nil)) (StOk.of [] rfl StM.nil)
    (Obs.val (fun a' w' E => ob_move (.tmp 0) rfl (E.old 0 (by kernel_rfl)))
    (Obs.val (fun a' w' E => ob_fcall 13 _ _ rfl (am1 (E.new (v := (B n)) 19 0 (by kernel_rfl) rfl)) (fc13 _ _) (hS.out w'))
    (Obs.val (fun a' w' E => ob_fcall 7 _ _ rfl (am1 (E.new (v := (U m)) 20 1 (by kernel_rfl) rfl)) (fc7 _ _) (hQ.out w'))
    (Obs.val (fun a' w' E => ob_move (.tmp 21) rfl (E.new (v := (.tuple #[(A9 qx qy qn), (.int .i64 0)])) 21 2 (by kernel_rfl) rfl))
    (Obs.val (fun a' w' E => ob_extract (.tmp 18) 0 rfl (E.new (v := (.tuple #[(A9 qx qy qn), (.int .i64 0)])) 18 3 (by kernel_rfl) rfl) rfl)
    (Obs.val (fun a' w' E => ob_extract (.tmp 18) 1 rfl (E.new (v := (.tuple #[(A9 qx qy qn), (.int .i64 0)])) 18 3 (by kernel_rfl) rfl) rfl)
    (Obs.alloc (fun a' w' E => ob_alloc (t := 26) (by simp [opAt, execOp, go_sem]))
    (Obs.sta rfl (fun a' w' g E ha hr => ob_storea 26 (.tmp 7) (.tmp 22) rfl (ha 7 (by kernel_rfl)) (E.new (v := (A9 qx qy qn)) 22 4 (by kernel_rfl) rfl) rfl hr (by kernel_rfl) (Nat.le_of_ble_eq_true rfl) (by kernel_rfl) rfl)
    (Obs.val (fun a' w' E => ob_assign (.tmp 23) rfl (E.new (v := (.int .i64 0)) 23 5 (by kernel_rfl) rfl))
    Obs.nil))))))))) ?_
  intro bs w2 aZ haZ F
  have eZ : aZ = ({ tmps := #[(B n), (U k), undef, (PT w.heap.size), (.bool false), (PT g1_5), (.int .i64 0), (PT ((bs 6))), (.int .i64 0), undef, undef, undef, undef, (.tuple #[(A9 px py pn), (.int .i64 0)]), (U k), (.tuple #[(A9 px py pn), (.int .i64 0)]), (A9 px py pn), (.int .i64 0), (.tuple #[(A9 qx qy qn), (.int .i64 0)]), (B n), (U m), (.tuple #[(A9 qx qy qn), (.int .i64 0)]), (A9 qx qy qn), (.int .i64 0), undef, undef, undef, undef, undef, undef, undef, undef, undef, undef, undef, undef, undef, undef, undef, undef, undef, undef, undef, undef, undef, undef, undef, undef, undef, undef, undef, undef, undef, undef, undef, undef, undef, undef, undef, undef, undef, undef, undef, undef, undef, undef, undef, undef], defers := [] } : Act) := haZ.trans (by kernel_rfl)
  subst eZ
  clear haZ
  obtain ⟨h6, X6⟩ := F.al 6 rfl rfl
  replace RR : Hid (RB w w2 [((bs 6), (P9 qx qy qn)), (g1_5, (P9 px py pn)), (w.heap.size, (Ar k))]) := ⟨F.bw, (RowsAt.cons X6 (RowsAt.cons (F.row 1 rfl) (RowsAt.cons (F.row 0 rfl) RowsAt.nil)))⟩
  generalize bs 6 = g2_6 at *
  have k2_6_0 := Nat.lt_of_lt_of_le q0 h6
  have k2_6_1 := Nat.lt_of_lt_of_le q1 h6
  clear F qT q0 q1 h6 X6
  go_upto_region 3 with fail
  obtain ⟨q2, q1, q0, qT⟩ := RR.out.r.lts
  refine wp_region_told (by kernel_rfl) (by kernel_rfl) (by kernel_rfl) [(w.heap.size, (Ar k)), (g1_5, (P9 px py pn)), (g2_6, (P9 qx qy qn))]
    [sV (U k),
     sV (B n),
     sV (U m),
     sV (.tuple #[(U s), (.bool true)]),
     sV (.tuple #[(U s), (.bool true)]),
     sV (U s),
     sV (.bool true),
     sA (fun g => .pointer (some ⟨g, 0, none⟩)) 8 Zr (Ar s),
     sS 7,
     sV (.bool true)]
    (by kernel_rfl) RR.out.b (RowsAt.cons (RR.out.at 2 rfl) (RowsAt.cons (RR.out.at 1 rfl) (RowsAt.cons (RR.out.at 0 rfl) RowsAt.nil))) (StOk.of [] rfl StM.nil)
    (Obs.val (fun a' w' E => ob_loada 24 (.tmp 3) rfl (E.old 3 (by kernel_rfl)) (E.row (g := w.heap.size) (c := (Ar k)) 0 rfl) Tryd.underlying24 rfl (by kernel_rfl) rfl)
    (Obs.val (fun a' w' E => ob_move (.tmp 0) rfl (E.old 0 (by kernel_rfl)))
    (Obs.val (fun a' w' E => ob_fcall 13 _ _ rfl (am1 (E.new (v := (B n)) 26 1 (by kernel_rfl) rfl)) (fc13 _ _) (hS.out w'))
    (Obs.val (fun a' w' E => ob_fcall 22 _ _ rfl (am2 (E.new (v := (U k)) 25 0 (by kernel_rfl) rfl) (E.new (v := (U m)) 27 2 (by kernel_rfl) rfl)) (fc22 _ _) (hA.out w'))
    (Obs.val (fun a' w' E => ob_move (.tmp 28) rfl (E.new (v := (.tuple #[(U s), (.bool true)])) 28 3 (by kernel_rfl) rfl))
    (Obs.val (fun a' w' E => ob_extract (.tmp 24) 0 rfl (E.new (v := (.tuple #[(U s), (.bool true)])) 24 4 (by kernel_rfl) rfl) rfl)
    (Obs.val (fun a' w' E => ob_extract (.tmp 24) 1 rfl (E.new (v := (.tuple #[(U s), (.bool true)])) 24 4 (by kernel_rfl) rfl) rfl)
    (Obs.alloc (fun a' w' E => ob_alloc (t := 24) (by simp [opAt, execOp, go_sem]))
    (Obs.sta rfl (fun a' w' g E ha hr => ob_storea 24 (.tmp 9) (.tmp 29) rfl (ha 9 (by kernel_rfl)) (E.new (v := (U s)) 29 5 (by kernel_rfl) rfl) rfl hr (by kernel_rfl) (Nat.le_of_ble_eq_true rfl) (by kernel_rfl) rfl)
    (Obs.val (fun a' w' E => ob_assign (.tmp 30) rfl (E.new (v := (.bool true)) 30 6 (by kernel_rfl) rfl))
    Obs.nil)))))))))) ?_
  intro bs w3 aZ haZ F
  have eZ : aZ = ({ tmps := #[(B n), (U k), undef, (PT w.heap.size), (.bool false), (PT g1_5), (.int .i64 0), (PT g2_6), (.int .i64 0), (PT ((bs 7))), (.bool true), undef, undef, (.tuple #[(A9 px py pn), (.int .i64 0)]), (U k), (.tuple #[(A9 px py pn), (.int .i64 0)]), (A9 px py pn), (.int .i64 0), (.tuple #[(A9 qx qy qn), (.int .i64 0)]), (B n), (U m), (.tuple #[(A9 qx qy qn), (.int .i64 0)]), (A9 qx qy qn), (.int .i64 0), (.tuple #[(U s), (.bool true)]), (U k), (B n), (U m), (.tuple #[(U s), (.bool true)]), (U s), (.bool true), undef, undef, undef, undef, undef, undef, undef, undef, undef, undef, undef, undef, undef, undef, undef, undef, undef, undef, undef, undef, undef, undef, undef, undef, undef, undef, undef, undef, undef, undef, undef, undef, undef, undef, undef, undef, undef], defers := [] } : Act) := haZ.trans (by kernel_rfl)
  subst eZ
  clear haZ
  obtain ⟨h7, X7⟩ := F.al 7 rfl rfl
  replace RR : Hid (RB w w3 [((bs 7), (Ar s)), (g2_6, (P9 qx qy qn)), (g1_5, (P9 px py pn)), (w.heap.size, (Ar k))]) := ⟨F.bw, (RowsAt.cons X7 (RowsAt.cons (F.row 2 rfl) (RowsAt.cons (F.row 1 rfl) (RowsAt.cons (F.row 0 rfl) RowsAt.nil))))⟩
  generalize bs 7 = g3_7 at *
  have k3_7_0 := Nat.lt_of_lt_of_le q0 h7
  have k3_7_1 := Nat.lt_of_lt_of_le q1 h7
  have k3_7_2 := Nat.lt_of_lt_of_le q2 h7
  clear F qT q0 q1 q2 h7 X7
  go_upto_region 4 with fail
  obtain ⟨q3, q2, q1, q0, qT⟩ := RR.out.r.lts
  refine wp_region_told (by kernel_rfl) (by kernel_rfl) (by kernel_rfl) [(w.heap.size, (Ar k)), (g1_5, (P9 px py pn)), (g2_6, (P9 qx qy qn)), (g3_7, (Ar s))]
    [sV (.int .i64 0),
     sV (.bool false),
     sV (.bool false),
     sV (.bool true),
     sV (.bool true),
     sV (.bool true),
     sV undef,
     sV undef,
     sV undef,
     sV undef,
     sV (.bool true)]
    (by kernel_rfl) RR.out.b (RowsAt.cons (RR.out.at 3 rfl) (RowsAt.cons (RR.out.at 2 rfl) (RowsAt.cons (RR.out.at 1 rfl) (RowsAt.cons (RR.out.at 0 rfl) RowsAt.nil)))) (StOk.of [] rfl StM.nil)
    (Obs.val (fun a' w' E => ob_move (.tmp 6) rfl (E.old 6 (by kernel_rfl)))
    (Obs.val (fun a' w' E => ob_binOp .neq 27 (.tmp 31) (.const (.int .i64 0)) 27 rfl (E.new (v := (.int .i64 0)) 31 0 (by kernel_rfl) rfl) (evc a' (.int .i64 0)) (by simp [go_sem]))
    (Obs.val (fun a' w' E => ob_move (.tmp 32) rfl (E.new (v := (.bool false)) 32 1 (by kernel_rfl) rfl))
    (Obs.gval rfl rfl (fun a' w' E => E.new 33 2 (by kernel_rfl) rfl) (fun a' w' E => ob_move (.tmp 10) rfl (E.old 10 (by kernel_rfl)))
    (Obs.val (fun a' w' E => ob_pick (.tmp 33) (.const (.bool true)) (.tmp 34) rfl (E.new (v := (.bool false)) 33 2 (by kernel_rfl) rfl) (E.new (v := (.bool true)) 34 3 (by kernel_rfl) rfl))
    (Obs.val (fun a' w' E => ob_move (.tmp 35) rfl (E.new (v := (.bool true)) 35 4 (by kernel_rfl) rfl))
    (Obs.skip rfl rfl (fun a' w' E => E.new 36 5 (by kernel_rfl) rfl) (by decide) 
    (Obs.skip rfl rfl (fun a' w' E => E.new 36 5 (by kernel_rfl) rfl) (by decide) 
    (Obs.skip rfl rfl (fun a' w' E => E.new 36 5 (by kernel_rfl) rfl) (by decide) 
    (Obs.skip rfl rfl (fun a' w' E => E.new 36 5 (by kernel_rfl) rfl) (by decide) 
    (Obs.val (fun a' w' E => ob_pick (.tmp 36) (.const (.bool true)) (.tmp 40) rfl (E.new (v := (.bool true)) 36 5 (by kernel_rfl) rfl) (evc a' (.bool true)))
    Obs.nil))))))))))) ?_
  intro bs w4 aZ haZ F
  have eZ : aZ = ({ tmps := #[(B n), (U k), undef, (PT w.heap.size), (.bool false), (PT g1_5), (.int .i64 0), (PT g2_6), (.int .i64 0), (PT g3_7), (.bool true), undef, undef, (.tuple #[(A9 px py pn), (.int .i64 0)]), (U k), (.tuple #[(A9 px py pn), (.int .i64 0)]), (A9 px py pn), (.int .i64 0), (.tuple #[(A9 qx qy qn), (.int .i64 0)]), (B n), (U m), (.tuple #[(A9 qx qy qn), (.int .i64 0)]), (A9 qx qy qn), (.int .i64 0), (.tuple #[(U s), (.bool true)]), (U k), (B n), (U m), (.tuple #[(U s), (.bool true)]), (U s), (.bool true), (.int .i64 0), (.bool false), (.bool false), (.bool true), (.bool true), (.bool true), undef, undef, undef, undef, (.bool true), undef, undef, undef, undef, undef, undef, undef, undef, undef, undef, undef, undef, undef, undef, undef, undef, undef, undef, undef, undef, undef, undef, undef, undef, undef, undef], defers := [] } : Act) := haZ.trans (by kernel_rfl)
  subst eZ
  clear haZ
  replace RR : Hid (RB w w4 [(g3_7, (Ar s)), (g2_6, (P9 qx qy qn)), (g1_5, (P9 px py pn)), (w.heap.size, (Ar k))]) := ⟨F.bw, (RowsAt.cons (F.row 3 rfl) (RowsAt.cons (F.row 2 rfl) (RowsAt.cons (F.row 1 rfl) (RowsAt.cons (F.row 0 rfl) RowsAt.nil))))⟩
  clear F qT q0 q1 q2 q3
  go_upto_region 5 with fail
  obtain ⟨q3, q2, q1, q0, qT⟩ := RR.out.r.lts
  refine wp_region_told (by kernel_rfl) (by kernel_rfl) (by kernel_rfl) [(w.heap.size, (Ar k)), (g1_5, (P9 px py pn)), (g2_6, (P9 qx qy qn)), (g3_7, (Ar s))]
    [sV (.int .i64 0),
     sV (.bool true),
     sV (.bool true),
     sV (.bool true),
     sV (.bool true),
     sV (.bool true)]
    (by kernel_rfl) RR.out.b (RowsAt.cons (RR.out.at 3 rfl) (RowsAt.cons (RR.out.at 2 rfl) (RowsAt.cons (RR.out.at 1 rfl) (RowsAt.cons (RR.out.at 0 rfl) RowsAt.nil)))) (StOk.of [] rfl StM.nil)
    (Obs.val (fun a' w' E => ob_move (.tmp 8) rfl (E.old 8 (by kernel_rfl)))
    (Obs.val (fun a' w' E => ob_binOp .eql 27 (.tmp 42) (.const (.int .i64 0)) 27 rfl (E.new (v := (.int .i64 0)) 42 0 (by kernel_rfl) rfl) (evc a' (.int .i64 0)) (by simp [go_sem]))
    (Obs.val (fun a' w' E => ob_move (.tmp 43) rfl (E.new (v := (.bool true)) 43 1 (by kernel_rfl) rfl))
    (Obs.gval rfl rfl (fun a' w' E => E.new 44 2 (by kernel_rfl) rfl) (fun a' w' E => ob_fcall 18 _ _ rfl (am0) (fc18 _ _) (tbl hW HT.out E.bw w'))
    (Obs.val (fun a' w' E => ob_pick (.tmp 44) (.tmp 45) (.const (.bool false)) rfl (E.new (v := (.bool true)) 44 2 (by kernel_rfl) rfl) (E.new (v := (.bool true)) 45 3 (by kernel_rfl) rfl))
    (Obs.val (fun a' w' E => ob_assign (.tmp 46) rfl (E.new (v := (.bool true)) 46 4 (by kernel_rfl) rfl))
    Obs.nil)))))) ?_
  intro bs w5 aZ haZ F
  have eZ : aZ = ({ tmps := #[(B n), (U k), undef, (PT w.heap.size), (.bool true), (PT g1_5), (.int .i64 0), (PT g2_6), (.int .i64 0), (PT g3_7), (.bool true), undef, undef, (.tuple #[(A9 px py pn), (.int .i64 0)]), (U k), (.tuple #[(A9 px py pn), (.int .i64 0)]), (A9 px py pn), (.int .i64 0), (.tuple #[(A9 qx qy qn), (.int .i64 0)]), (B n), (U m), (.tuple #[(A9 qx qy qn), (.int .i64 0)]), (A9 qx qy qn), (.int .i64 0), (.tuple #[(U s), (.bool true)]), (U k), (B n), (U m), (.tuple #[(U s), (.bool true)]), (U s), (.bool true), (.int .i64 0), (.bool false), (.bool false), (.bool true), (.bool true), (.bool true), undef, undef, undef, undef, (.bool true), (.int .i64 0), (.bool true), (.bool true), (.bool true), (.bool true), undef, undef, undef, undef, undef, undef, undef, undef, undef, undef, undef, undef, undef, undef, undef, undef, undef, undef, undef, undef, undef], defers := [] } : Act) := haZ.trans (by kernel_rfl)
  subst eZ
  clear haZ
  replace RR : Hid (RB w w5 [(g3_7, (Ar s)), (g2_6, (P9 qx qy qn)), (g1_5, (P9 px py pn)), (w.heap.size, (Ar k))]) := ⟨F.bw, (RowsAt.cons (F.row 3 rfl) (RowsAt.cons (F.row 2 rfl) (RowsAt.cons (F.row 1 rfl) (RowsAt.cons (F.row 0 rfl) RowsAt.nil))))⟩
  clear F qT q0 q1 q2 q3
  go_wp2
  exact bodyPost_ret (v := (.bool true)) (by simp [results, Tryd.results6, go_sem]) rfl ⟨rfl, RR.out.b⟩
set_option maxRecDepth 100000 in
set_option maxHeartbeats 4000000 in
theorem sums_c (n k m s od px py qx qy rx ry : Nat) (pn qn rn ov : Bool) (z : Int) (hz : 0 ≤ z) (hP : Does 7 #[(U k)] (.tuple #[(A9 px py pn), (.int .i64 0)])) (hS : Does 13 #[(B n)] (U m)) (hQ : Does 7 #[(U m)] (.tuple #[(A9 qx qy qn), (.int .i64 0)])) (hA : Does 22 #[(U k), (U m)] (.tuple #[(U s), (.bool false)])) (hO : Does 20 #[] (U od)) (hC : Does 23 #[(U s), (U od)] (.int .i64 z)) (hW : DoesT 18 #[] (.bool true)) 
    (w : World) (ht : Tabs w ki) : Calls Tryd.prog 6 #[(B n), (U k)] w fun e w' => e = .returned (.bool true) ∧ Below w.heap.size w w' := by
  have HT : Hid (Tabs w ki) := ht
  clear ht
  go_enter Tryd.func6, Tryd.ntmps6
  go_upto_region 1 with fail
  refine name_world _ ?_
  intro wF hF0
  have RR : Hid (RB w wF [(w.heap.size, (Ar k))]) := by rw [hF0]; exact (rbN (rb0 w) (by simp))
  clear hF0
  obtain ⟨q0, qT⟩ := RR.out.r.lts
  refine wp_region_told (by kernel_rfl) (by kernel_rfl) (by kernel_rfl) [(w.heap.size, (Ar k))]
    [sV (U k),
     sV (.tuple #[(A9 px py pn), (.int .i64 0)]),
     sV (.tuple #[(A9 px py pn), (.int .i64 0)]),
     sV (A9 px py pn),
     sV (.int .i64 0),
     sA (fun g => .pointer (some ⟨g, 0, none⟩)) 6 Z9 (P9 px py pn),
     sS 5,
     sV (.int .i64 0)]
    (by kernel_rfl) RR.out.b (RowsAt.cons (RR.out.at 0 rfl) RowsAt.nil) (StOk.of [] rfl StM.nil)
    (Obs.val (fun a' w' E => ob_loada 24 (.tmp 3) rfl (E.old 3 (by kernel_rfl)) (E.row (g := w.heap.size) (c := (Ar k)) 0 rfl) Tryd.underlying24 rfl (by kernel_rfl) rfl)
    (Obs.val (fun a' w' E => ob_fcall 7 _ _ rfl (am1 (E.new (v := (U k)) 14 0 (by kernel_rfl) rfl)) (fc7 _ _) (hP.out w'))
    (Obs.val (fun a' w' E => ob_move (.tmp 15) rfl (E.new (v := (.tuple #[(A9 px py pn), (.int .i64 0)])) 15 1 (by kernel_rfl) rfl))
    (Obs.val (fun a' w' E => ob_extract (.tmp 13) 0 rfl (E.new (v := (.tuple #[(A9 px py pn), (.int .i64 0)])) 13 2 (by kernel_rfl) rfl) rfl)
    (Obs.val (fun a' w' E => ob_extract (.tmp 13) 1 rfl (E.new (v := (.tuple #[(A9 px py pn), (.int .i64 0)])) 13 2 (by kernel_rfl) rfl) rfl)
    (Obs.alloc (fun a' w' E => ob_alloc (t := 26) (by simp [opAt, execOp, go_sem]))
    (Obs.sta rfl (fun a' w' g E ha hr => ob_storea 26 (.tmp 5) (.tmp 16) rfl (ha 5 (by kernel_rfl)) (E.new (v := (A9 px py pn)) 16 3 (by kernel_rfl) rfl) rfl hr (by kernel_rfl) (Nat.le_of_ble_eq_true rfl) (by kernel_rfl) rfl)
    (Obs.val (fun a' w' E => ob_assign (.tmp 17) rfl (E.new (v := (.int .i64 0)) 17 4 (by kernel_rfl) rfl))
    Obs.nil)))))))) ?_
  intro bs w1 aZ haZ F
  have eZ : aZ = ({ tmps := #[(B n), (U k), undef, (PT w.heap.size), (.bool false), (PT ((bs 5))), (.int .i64 0), undef, undef, undef, undef, undef, undef, (.tuple #[(A9 px py pn), (.int .i64 0)]), (U k), (.tuple #[(A9 px py pn), (.int .i64 0)]), (A9 px py pn), (.int .i64 0), undef, undef, undef, undef, undef, undef, undef, undef, undef, undef, undef, undef, undef, undef, undef, undef, undef, undef, undef, undef, undef, undef, undef, undef, undef, undef, undef, undef, undef, undef, undef, undef, undef, undef, undef, undef, undef, undef, undef, undef, undef, undef, undef, undef, undef, undef, undef, undef, undef, undef], defers := [] } : Act) := haZ.trans (by kernel_rfl)
  subst eZ
  clear haZ
  obtain ⟨h5, X5⟩ := F.al 5 rfl rfl
  replace RR : Hid (RB w w1 [((bs 5), (P9 px py pn)), (w.heap.size, (Ar k))]) := ⟨F.bw, (RowsAt.cons X5 (RowsAt.cons (F.row 0 rfl) RowsAt.nil))⟩
  generalize bs 5 = g1_5 at *
  have k1_5_0 := Nat.lt_of_lt_of_le q0 h5
  clear F qT q0 h5 X5
  clear wF
  go_upto_region 2 with fail
  obtain ⟨q1, q0, qT⟩ := RR.out.r.lts
  refine wp_region_told (by kernel_rfl) (by kernel_rfl) (by kernel_rfl) [(w.heap.size, (Ar k)), (g1_5, (P9 px py pn))]
    [sV (B n),
     sV (U m),
     sV (.tuple #[(A9 qx qy qn), (.int .i64 0)]),
     sV (.tuple #[(A9 qx qy qn), (.int .i64 0)]),
     sV (A9 qx qy qn),
     sV (.int .i64 0),
     sA (fun g => .pointer (some ⟨g, 0, none⟩)) 7 Z9 (P9 qx qy qn),
     sS 6,
     sV (.int .i64 0)]
    (by kernel_rfl) RR.out.b (RowsAt.cons (RR.out.at 1 rfl) (RowsAt.cons (RR.out.at 0 rfl) RowsAt.nil)) (StOk.of [] rfl StM.nil)
    (Obs.val (fun a' w' E => ob_move (.tmp 0) rfl (E.old 0 (by kernel_rfl)))
    (Obs.val (fun a' w' E => ob_fcall 13 _ _ rfl (am1 (E.new (v := (B n)) 19 0 (by kernel_rfl) rfl)) (fc13 _ _) (hS.out w'))
    (Obs.val (fun a' w' E => ob_fcall 7 _ _ rfl (am1 (E.new (v := (U m)) 20 1 (by kernel_rfl) rfl)) (fc7 _ _) (hQ.out w'))
    (Obs.val (fun a' w' E => ob_move (.tmp 21) rfl (E.new (v := (.tuple #[(A9 qx qy qn), (.int .i64 0)])) 21 2 (by kernel_rfl) rfl))
    (Obs.val (fun a' w' E => ob_extract (.tmp 18) 0 rfl (E.new (v := (.tuple #[(A9 qx qy qn), (.int .i64 0)])) 18 3 (by kernel_rfl) rfl) rfl)
    (Obs.val (fun a' w' E => ob_extract (.tmp 18) 1 rfl (E.new (v := (.tuple #[(A9 qx qy qn), (.int .i64 0)])) 18 3 (by kernel_rfl) rfl) rfl)
    (Obs.alloc (fun a' w' E => ob_alloc (t := 26) (by simp [opAt, execOp, go_sem]))
    (Obs.sta rfl (fun a' w' g E ha hr => ob_storea 26 (.tmp 7) (.tmp 22) rfl (ha 7 (by kernel_rfl)) (E.new (v := (A9 qx qy qn)) 22 4 (by kernel_rfl) rfl) rfl hr (by kernel_rfl) (Nat.le_of_ble_eq_true rfl) (by kernel_rfl) rfl)
    (Obs.val (fun a' w' E => ob_assign (.tmp 23) rfl (E.new (v := (.int .i64 0)) 23 5 (by kernel_rfl) rfl))
    Obs.nil))))))))) ?_
  intro bs w2 aZ haZ F
  have eZ : aZ = ({ tmps := #[(B n), (U k), undef, (PT w.heap.size), (.bool false), (PT g1_5), (.int .i64 0), (PT ((bs 6))), (.int .i64 0), undef, undef, undef, undef, (.tuple #[(A9 px py pn), (.int .i64 0)]), (U k), (.tuple #[(A9 px py pn), (.int .i64 0)]), (A9 px py pn), (.int .i64 0), (.tuple #[(A9 qx qy qn), (.int .i64 0)]), (B n), (U m), (.tuple #[(A9 qx qy qn), (.int .i64 0)]), (A9 qx qy qn), (.int .i64 0), undef, undef, undef, undef, undef, undef, undef, undef, undef, undef, undef, undef, undef, undef, undef, undef, undef, undef, undef, undef, undef, undef, undef, undef, undef, undef, undef, undef, undef, undef, undef, undef, undef, undef, undef, undef, undef, undef, undef, undef, undef, undef, undef, undef], defers := [] } : Act) := haZ.trans (by kernel_rfl)
  subst eZ
  clear haZ
  obtain ⟨h6, X6⟩ := F.al 6 rfl rfl
  replace RR : Hid (RB w w2 [((bs 6), (P9 qx qy qn)), (g1_5, (P9 px py pn)), (w.heap.size, (Ar k))]) := ⟨F.bw, (RowsAt.cons X6 (RowsAt.cons (F.row 1 rfl) (RowsAt.cons (F.row 0 rfl) RowsAt.nil)))⟩
  generalize bs 6 = g2_6 at *
  have k2_6_0 := Nat.lt_of_lt_of_le q0 h6
  have k2_6_1 := Nat.lt_of_lt_of_le q1 h6
  clear F qT q0 q1 h6 X6
  go_upto_region 3 with fail
  obtain ⟨q2, q1, q0, qT⟩ := RR.out.r.lts
  refine wp_region_told (by kernel_rfl) (by kernel_rfl) (by kernel_rfl) [(w.heap.size, (Ar k)), (g1_5, (P9 px py pn)), (g2_6, (P9 qx qy qn))]
    [sV (U k),
     sV (B n),
     sV (U m),
     sV (.tuple #[(U s), (.bool false)]),
     sV (.tuple #[(U s), (.bool false)]),
     sV (U s),
     sV (.bool false),
     sA (fun g => .pointer (some ⟨g, 0, none⟩)) 8 Zr (Ar s),
     sS 7,
     sV (.bool false)]
    (by kernel_rfl) RR.out.b (RowsAt.cons (RR.out.at 2 rfl) (RowsAt.cons (RR.out.at 1 rfl) (RowsAt.cons (RR.out.at 0 rfl) RowsAt.nil))) (StOk.of [] rfl StM.nil)
    (Obs.val (fun a' w' E => ob_loada 24 (.tmp 3) rfl (E.old 3 (by kernel_rfl)) (E.row (g := w.heap.size) (c := (Ar k)) 0 rfl) Tryd.underlying24 rfl (by kernel_rfl) rfl)
    (Obs.val (fun a' w' E => ob_move (.tmp 0) rfl (E.old 0 (by kernel_rfl)))
    (Obs.val (fun a' w' E => ob_fcall 13 _ _ rfl (am1 (E.new (v := (B n)) 26 1 (by kernel_rfl) rfl)) (fc13 _ _) (hS.out w'))
    (Obs.val (fun a' w' E => ob_fcall 22 _ _ rfl (am2 (E.new (v := (U k)) 25 0 (by kernel_rfl) rfl) (E.new (v := (U m)) 27 2 (by kernel_rfl) rfl)) (fc22 _ _) (hA.out w'))
    (Obs.val (fun a' w' E => ob_move (.tmp 28) rfl (E.new (v := (.tuple #[(U s), (.bool false)])) 28 3 (by kernel_rfl) rfl))
    (Obs.val (fun a' w' E => ob_extract (.tmp 24) 0 rfl (E.new (v := (.tuple #[(U s), (.bool false)])) 24 4 (by kernel_rfl) rfl) rfl)
    (Obs.val (fun a' w' E => ob_extract (.tmp 24) 1 rfl (E.new (v := (.tuple #[(U s), (.bool false)])) 24 4 (by kernel_rfl) rfl) rfl)
    (Obs.alloc (fun a' w' E => ob_alloc (t := 24) (by simp [opAt, execOp, go_sem]))
    (Obs.sta rfl (fun a' w' g E ha hr => ob_storea 24 (.tmp 9) (.tmp 29) rfl (ha 9 (by kernel_rfl)) (E.new (v := (U s)) 29 5 (by kernel_rfl) rfl) rfl hr (by kernel_rfl) (Nat.le_of_ble_eq_true rfl) (by kernel_rfl) rfl)
    (Obs.val (fun a' w' E => ob_assign (.tmp 30) rfl (E.new (v := (.bool false)) 30 6 (by kernel_rfl) rfl))
    Obs.nil)))))))))) ?_
  intro bs w3 aZ haZ F
  have eZ : aZ = ({ tmps := #[(B n), (U k), undef, (PT w.heap.size), (.bool false), (PT g1_5), (.int .i64 0), (PT g2_6), (.int .i64 0), (PT ((bs 7))), (.bool false), undef, undef, (.tuple #[(A9 px py pn), (.int .i64 0)]), (U k), (.tuple #[(A9 px py pn), (.int .i64 0)]), (A9 px py pn), (.int .i64 0), (.tuple #[(A9 qx qy qn), (.int .i64 0)]), (B n), (U m), (.tuple #[(A9 qx qy qn), (.int .i64 0)]), (A9 qx qy qn), (.int .i64 0), (.tuple #[(U s), (.bool false)]), (U k), (B n), (U m), (.tuple #[(U s), (.bool false)]), (U s), (.bool false), undef, undef, undef, undef, undef, undef, undef, undef, undef, undef, undef, undef, undef, undef, undef, undef, undef, undef, undef, undef, undef, undef, undef, undef, undef, undef, undef, undef, undef, undef, undef, undef, undef, undef, undef, undef, undef], defers := [] } : Act) := haZ.trans (by kernel_rfl)
  subst eZ
  clear haZ
  obtain ⟨h7, X7⟩ := F.al 7 rfl rfl
  replace RR : Hid (RB w w3 [((bs 7), (Ar s)), (g2_6, (P9 qx qy qn)), (g1_5, (P9 px py pn)), (w.heap.size, (Ar k))]) := ⟨F.bw, (RowsAt.cons X7 (RowsAt.cons (F.row 2 rfl) (RowsAt.cons (F.row 1 rfl) (RowsAt.cons (F.row 0 rfl) RowsAt.nil))))⟩
  generalize bs 7 = g3_7 at *
  have k3_7_0 := Nat.lt_of_lt_of_le q0 h7
  have k3_7_1 := Nat.lt_of_lt_of_le q1 h7
  have k3_7_2 := Nat.lt_of_lt_of_le q2 h7
  clear F qT q0 q1 q2 h7 X7
  go_upto_region 4 with fail
  obtain ⟨q3, q2, q1, q0, qT⟩ := RR.out.r.lts
  refine wp_region_told (by kernel_rfl) (by kernel_rfl) (by kernel_rfl) [(w.heap.size, (Ar k)), (g1_5, (P9 px py pn)), (g2_6, (P9 qx qy qn)), (g3_7, (Ar s))]
    [sV (.int .i64 0),
     sV (.bool false),
     sV (.bool false),
     sV (.bool false),
     sV (.bool false),
     sV (.bool false),
     sV (U s),
     sV (U od),
     sV (.int .i64 z),
     sV (.bool true),
     sV (.bool true)]
    (by kernel_rfl) RR.out.b (RowsAt.cons (RR.out.at 3 rfl) (RowsAt.cons (RR.out.at 2 rfl) (RowsAt.cons (RR.out.at 1 rfl) (RowsAt.cons (RR.out.at 0 rfl) RowsAt.nil)))) (StOk.of [] rfl StM.nil)
    (Obs.val (fun a' w' E => ob_move (.tmp 6) rfl (E.old 6 (by kernel_rfl)))
    (Obs.val (fun a' w' E => ob_binOp .neq 27 (.tmp 31) (.const (.int .i64 0)) 27 rfl (E.new (v := (.int .i64 0)) 31 0 (by kernel_rfl) rfl) (evc a' (.int .i64 0)) (by simp [go_sem]))
    (Obs.val (fun a' w' E => ob_move (.tmp 32) rfl (E.new (v := (.bool false)) 32 1 (by kernel_rfl) rfl))
    (Obs.gval rfl rfl (fun a' w' E => E.new 33 2 (by kernel_rfl) rfl) (fun a' w' E => ob_move (.tmp 10) rfl (E.old 10 (by kernel_rfl)))
    (Obs.val (fun a' w' E => ob_pick (.tmp 33) (.const (.bool true)) (.tmp 34) rfl (E.new (v := (.bool false)) 33 2 (by kernel_rfl) rfl) (E.new (v := (.bool false)) 34 3 (by kernel_rfl) rfl))
    (Obs.val (fun a' w' E => ob_move (.tmp 35) rfl (E.new (v := (.bool false)) 35 4 (by kernel_rfl) rfl))
    (Obs.gval rfl rfl (fun a' w' E => E.new 36 5 (by kernel_rfl) rfl) (fun a' w' E => ob_loada 24 (.tmp 9) rfl (E.old 9 (by kernel_rfl)) (E.row (g := g3_7) (c := (Ar s)) 3 rfl) Tryd.underlying24 rfl (by kernel_rfl) rfl)
    (Obs.gval rfl rfl (fun a' w' E => E.new 36 5 (by kernel_rfl) rfl) (fun a' w' E => ob_fcall 20 _ _ rfl (am0) (fc20 _ _) (hO.out w'))
    (Obs.gval rfl rfl (fun a' w' E => E.new 36 5 (by kernel_rfl) rfl) (fun a' w' E => ob_fcall 23 _ _ rfl (am2 (E.new (v := (U s)) 37 6 (by kernel_rfl) rfl) (E.new (v := (U od)) 38 7 (by kernel_rfl) rfl)) (fc23 _ _) (hC.out w'))
    (Obs.gval rfl rfl (fun a' w' E => E.new 36 5 (by kernel_rfl) rfl) (fun a' w' E => ob_binOp .geq 3 (.tmp 39) (.const (.int .i64 0)) 3 rfl (E.new (v := (.int .i64 z)) 39 8 (by kernel_rfl) rfl) (evc a' (.int .i64 0)) (by simp [go_sem, hz]))
    (Obs.val (fun a' w' E => ob_pick (.tmp 36) (.const (.bool true)) (.tmp 40) rfl (E.new (v := (.bool false)) 36 5 (by kernel_rfl) rfl) (E.new (v := (.bool true)) 40 9 (by kernel_rfl) rfl))
    Obs.nil))))))))))) ?_
  intro bs w4 aZ haZ F
  have eZ : aZ = ({ tmps := #[(B n), (U k), undef, (PT w.heap.size), (.bool false), (PT g1_5), (.int .i64 0), (PT g2_6), (.int .i64 0), (PT g3_7), (.bool false), undef, undef, (.tuple #[(A9 px py pn), (.int .i64 0)]), (U k), (.tuple #[(A9 px py pn), (.int .i64 0)]), (A9 px py pn), (.int .i64 0), (.tuple #[(A9 qx qy qn), (.int .i64 0)]), (B n), (U m), (.tuple #[(A9 qx qy qn), (.int .i64 0)]), (A9 qx qy qn), (.int .i64 0), (.tuple #[(U s), (.bool false)]), (U k), (B n), (U m), (.tuple #[(U s), (.bool false)]), (U s), (.bool false), (.int .i64 0), (.bool false), (.bool false), (.bool false), (.bool false), (.bool false), (U s), (U od), (.int .i64 z), (.bool true), (.bool true), undef, undef, undef, undef, undef, undef, undef, undef, undef, undef, undef, undef, undef, undef, undef, undef, undef, undef, undef, undef, undef, undef, undef, undef, undef, undef], defers := [] } : Act) := haZ.trans (by kernel_rfl)
  subst eZ
  clear haZ
  replace RR : Hid (RB w w4 [(g3_7, (Ar s)), (g2_6, (P9 qx qy qn)), (g1_5, (P9 px py pn)), (w.heap.size, (Ar k))]) := ⟨F.bw, (RowsAt.cons (F.row 3 rfl) (RowsAt.cons (F.row 2 rfl) (RowsAt.cons (F.row 1 rfl) (RowsAt.cons (F.row 0 rfl) RowsAt.nil))))⟩
  clear F qT q0 q1 q2 q3
  go_upto_region 5 with fail
  obtain ⟨q3, q2, q1, q0, qT⟩ := RR.out.r.lts
  refine wp_region_told (by kernel_rfl) (by kernel_rfl) (by kernel_rfl) [(w.heap.size, (Ar k)), (g1_5, (P9 px py pn)), (g2_6, (P9 qx qy qn)), (g3_7, (Ar s))]
    [sV (.int .i64 0),
     sV (.bool true),
     sV (.bool true),
     sV (.bool true),
     sV (.bool true),
     sV (.bool true)]
    (by kernel_rfl) RR.out.b (RowsAt.cons (RR.out.at 3 rfl) (RowsAt.cons (RR.out.at 2 rfl) (RowsAt.cons (RR.out.at 1 rfl) (RowsAt.cons (RR.out.at 0 rfl) RowsAt.nil)))) (StOk.of [] rfl StM.nil)
    (Obs.val (fun a' w' E => ob_move (.tmp 8) rfl (E.old 8 (by kernel_rfl)))
    (Obs.val (fun a' w' E => ob_binOp .eql 27 (.tmp 42) (.const (.int .i64 0)) 27 rfl (E.new (v := (.int .i64 0)) 42 0 (by kernel_rfl) rfl) (evc a' (.int .i64 0)) (by simp [go_sem]))
    (Obs.val (fun a' w' E => ob_move (.tmp 43) rfl (E.new (v := (.bool true)) 43 1 (by kernel_rfl) rfl))
    (Obs.gval rfl rfl (fun a' w' E => E.new 44 2 (by kernel_rfl) rfl) (fun a' w' E => ob_fcall 18 _ _ rfl (am0) (fc18 _ _) (tbl hW HT.out E.bw w'))
    (Obs.val (fun a' w' E => ob_pick (.tmp 44) (.tmp 45) (.const (.bool false)) rfl (E.new (v := (.bool true)) 44 2 (by kernel_rfl) rfl) (E.new (v := (.bool true)) 45 3 (by kernel_rfl) rfl))
    (Obs.val (fun a' w' E => ob_assign (.tmp 46) rfl (E.new (v := (.bool true)) 46 4 (by kernel_rfl) rfl))
    Obs.nil)))))) ?_
  intro bs w5 aZ haZ F
  have eZ : aZ = ({ tmps := #[(B n), (U k), undef, (PT w.heap.size), (.bool true), (PT g1_5), (.int .i64 0), (PT g2_6), (.int .i64 0), (PT g3_7), (.bool false), undef, undef, (.tuple #[(A9 px py pn), (.int .i64 0)]), (U k), (.tuple #[(A9 px py pn), (.int .i64 0)]), (A9 px py pn), (.int .i64 0), (.tuple #[(A9 qx qy qn), (.int .i64 0)]), (B n), (U m), (.tuple #[(A9 qx qy qn), (.int .i64 0)]), (A9 qx qy qn), (.int .i64 0), (.tuple #[(U s), (.bool false)]), (U k), (B n), (U m), (.tuple #[(U s), (.bool false)]), (U s), (.bool false), (.int .i64 0), (.bool false), (.bool false), (.bool false), (.bool false), (.bool false), (U s), (U od), (.int .i64 z), (.bool true), (.bool true), (.int .i64 0), (.bool true), (.bool true), (.bool true), (.bool true), undef, undef, undef, undef, undef, undef, undef, undef, undef, undef, undef, undef, undef, undef, undef, undef, undef, undef, undef, undef, undef], defers := [] } : Act) := haZ.trans (by kernel_rfl)
  subst eZ
  clear haZ
  replace RR : Hid (RB w w5 [(g3_7, (Ar s)), (g2_6, (P9 qx qy qn)), (g1_5, (P9 px py pn)), (w.heap.size, (Ar k))]) := ⟨F.bw, (RowsAt.cons (F.row 3 rfl) (RowsAt.cons (F.row 2 rfl) (RowsAt.cons (F.row 1 rfl) (RowsAt.cons (F.row 0 rfl) RowsAt.nil))))⟩
  clear F qT q0 q1 q2 q3
  go_wp2
  exact bodyPost_ret (v := (.bool true)) (by simp [results, Tryd.results6, go_sem]) rfl ⟨rfl, RR.out.b⟩
set_option maxRecDepth 100000 in
set_option maxHeartbeats 4000000 in
theorem sums_d (n k m s od px py qx qy rx ry : Nat) (pn qn rn ov : Bool) (z : Int) (hz : ¬ 0 ≤ z) (hP : Does 7 #[(U k)] (.tuple #[(A9 px py pn), (.int .i64 0)])) (hS : Does 13 #[(B n)] (U m)) (hQ : Does 7 #[(U m)] (.tuple #[(A9 qx qy qn), (.int .i64 0)])) (hA : Does 22 #[(U k), (U m)] (.tuple #[(U s), (.bool false)])) (hO : Does 20 #[] (U od)) (hC : Does 23 #[(U s), (U od)] (.int .i64 z)) (hR : Does 7 #[(U s)] (.tuple #[(A9 rx ry rn), (.int .i64 0)])) (hD : Does 24 #[(A9 px py pn), (A9 qx qy qn)] (A9 rx ry rn)) (hW : DoesT 18 #[] (.bool true)) (hE0 : ∀ w, (Op.equalIn 10000 26 (A9 rx ry rn) (A9 rx ry rn)).run Tryd.prog w = .ok true w)
    (w : World) (ht : Tabs w ki) : Calls Tryd.prog 6 #[(B n), (U k)] w fun e w' => e = .returned (.bool true) ∧ Below w.heap.size w w' := by
  have HT : Hid (Tabs w ki) := ht
  clear ht
  go_enter Tryd.func6, Tryd.ntmps6
  go_upto_region 1 with fail
  refine name_world _ ?_
  intro wF hF0
  have RR : Hid (RB w wF [(w.heap.size, (Ar k))]) := by rw [hF0]; exact (rbN (rb0 w) (by simp))
  clear hF0
  obtain ⟨q0, qT⟩ := RR.out.r.lts
  refine wp_region_told (by kernel_rfl) (by kernel_rfl) (by kernel_rfl) [(w.heap.size, (Ar k))]
    [sV (U k),
     sV (.tuple #[(A9 px py pn), (.int .i64 0)]),
     sV (.tuple #[(A9 px py pn), (.int .i64 0)]),
     sV (A9 px py pn),
     sV (.int .i64 0),
     sA (fun g => .pointer (some ⟨g, 0, none⟩)) 6 Z9 (P9 px py pn),
     sS 5,
     sV (.int .i64 0)]
    (by kernel_rfl) RR.out.b (RowsAt.cons (RR.out.at 0 rfl) RowsAt.nil) (StOk.of [] rfl StM.nil)
    (Obs.val (fun a' w' E => ob_loada 24 (.tmp 3) rfl (E.old 3 (by kernel_rfl)) (E.row (g := w.heap.size) (c := (Ar k)) 0 rfl) Tryd.underlying24 rfl (by kernel_rfl) rfl)
    (Obs.val (fun a' w' E => ob_fcall 7 _ _ rfl (am1 (E.new (v := (U k)) 14 0 (by kernel_rfl) rfl)) (fc7 _ _) (hP.out w'))
    (Obs.val (fun a' w' E => ob_move (.tmp 15) rfl (E.new (v := (.tuple #[(A9 px py pn), (.int .i64 0)])) 15 1 (by kernel_rfl) rfl))
    (Obs.val (fun a' w' E => ob_extract (.tmp 13) 0 rfl (E.new (v := (.tuple #[(A9 px py pn), (.int .i64 0)])) 13 2 (by kernel_rfl) rfl) rfl)
    (Obs.val (fun a' w' E => ob_extract (.tmp 13) 1 rfl (E.new (v := (.tuple #[(A9 px py pn), (.int .i64 0)])) 13 2 (by kernel_rfl) rfl) rfl)
    (Obs.alloc (fun a' w' E => ob_alloc (t := 26) (by simp [opAt, execOp, go_sem]))
    (Obs.sta rfl (fun a' w' g E ha hr => ob_storea 26 (.tmp 5) (.tmp 16) rfl (ha 5 (by kernel_rfl)) (E.new (v := (A9 px py pn)) 16 3 (by kernel_rfl) rfl) rfl hr (by kernel_rfl) (Nat.le_of_ble_eq_true rfl) (by kernel_rfl) rfl)
    (Obs.val (fun a' w' E => ob_assign (.tmp 17) rfl (E.new (v := (.int .i64 0)) 17 4 (by kernel_rfl) rfl))
    Obs.nil)))))))) ?_
  intro bs w1 aZ haZ F
  have eZ : aZ = ({ tmps := #[(B n), (U k), undef, (PT w.heap.size), (.bool false), (PT ((bs 5))), (.int .i64 0), undef, undef, undef, undef, undef, undef, (.tuple #[(A9 px py pn), (.int .i64 0)]), (U k), (.tuple #[(A9 px py pn), (.int .i64 0)]), (A9 px py pn), (.int .i64 0), undef, undef, undef, undef, undef, undef, undef, undef, undef, undef, undef, undef, undef, undef, undef, undef, undef, undef, undef, undef, undef, undef, undef, undef, undef, undef, undef, undef, undef, undef, undef, undef, undef, undef, undef, undef, undef, undef, undef, undef, undef, undef, undef, undef, undef, undef, undef, undef, undef, undef], defers := [] } : Act) := haZ.trans (by kernel_rfl)
  subst eZ
  clear haZ
  obtain ⟨h5, X5⟩ := F.al 5 rfl rfl
  replace RR : Hid (RB w w1 [((bs 5), (P9 px py pn)), (w.heap.size, (Ar k))]) := ⟨F.bw, (RowsAt.cons X5 (RowsAt.cons (F.row 0 rfl) RowsAt.nil))⟩
  generalize bs 5 = g1_5 at *
  have k1_5_0 := Nat.lt_of_lt_of_le q0 h5
  clear F qT q0 h5 X5
  clear wF
  go_upto_region 2 with fail
  obtain ⟨q1, q0, qT⟩ := RR.out.r.lts
  refine wp_region_told (by kernel_rfl) (by kernel_rfl) (by kernel_rfl) [(w.heap.size, (Ar k)), (g1_5, (P9 px py pn))]
    [sV (B n),
     sV (U m),
     sV (.tuple #[(A9 qx qy qn), (.int .i64 0)]),
     sV (.tuple #[(A9 qx qy qn), (.int .i64 0)]),
     sV (A9 qx qy qn),
     sV (.int .i64 0),
     sA (fun g => .pointer (some ⟨g, 0, none⟩)) 7 Z9 (P9 qx qy qn),
     sS 6,
     sV (.int .i64 0)]
    (by kernel_rfl) RR.out.b (RowsAt.cons (RR.out.at 1 rfl) (RowsAt.cons (RR.out.at 0 rfl) RowsAt.nil)) (StOk.of [] rfl StM.nil)
    (Obs.val (fun a' w' E => ob_move (.tmp 0) rfl (E.old 0 (by kernel_rfl)))
    (Obs.val (fun a' w' E => ob_fcall 13 _ _ rfl (am1 (E.new (v := (B n)) 19 0 (by kernel_rfl) rfl)) (fc13 _ _) (hS.out w'))
    (Obs.val (fun a' w' E => ob_fcall 7 _ _ rfl (am1 (E.new (v := (U m)) 20 1 (by kernel_rfl) rfl)) (fc7 _ _) (hQ.out w'))
    (Obs.val (fun a' w' E => ob_move (.tmp 21) rfl (E.new (v := (.tuple #[(A9 qx qy qn), (.int .i64 0)])) 21 2 (by kernel_rfl) rfl))
    (Obs.val (fun a' w' E => ob_extract (.tmp 18) 0 rfl (E.new (v := (.tuple #[(A9 qx qy qn), (.int .i64 0)])) 18 3 (by kernel_rfl) rfl) rfl)
    (Obs.val (fun a' w' E => ob_extract (.tmp 18) 1 rfl (E.new (v := (.tuple #[(A9 qx qy qn), (.int .i64 0)])) 18 3 (by kernel_rfl) rfl) rfl)
    (Obs.alloc (fun a' w' E => ob_alloc (t := 26) (by simp [opAt, execOp, go_sem]))
    (Obs.sta rfl (fun a' w' g E ha hr => ob_storea 26 (.tmp 7) (.tmp 22) rfl (ha 7 (by kernel_rfl)) (E.new (v := (A9 qx qy qn)) 22 4 (by kernel_rfl) rfl) rfl hr (by kernel_rfl) (Nat.le_of_ble_eq_true rfl) (by kernel_rfl) rfl)
    (Obs.val (fun a' w' E => ob_assign (.tmp 23) rfl (E.new (v := (.int .i64 0)) 23 5 (by kernel_rfl) rfl))
    Obs.nil))))))))) ?_
  intro bs w2 aZ haZ F
  have eZ : aZ = ({ tmps := #[(B n), (U k), undef, (PT w.heap.size), (.bool false), (PT g1_5), (.int .i64 0), (PT ((bs 6))), (.int .i64 0), undef, undef, undef, undef, (.tuple #[(A9 px py pn), (.int .i64 0)]), (U k), (.tuple #[(A9 px py pn), (.int .i64 0)]), (A9 px py pn), (.int .i64 0), (.tuple #[(A9 qx qy qn), (.int .i64 0)]), (B n), (U m), (.tuple #[(A9 qx qy qn), (.int .i64 0)]), (A9 qx qy qn), (.int .i64 0), undef, undef, undef, undef, undef, undef, undef, undef, undef, undef, undef, undef, undef, undef, undef, undef, undef, undef, undef, undef, undef, undef, undef, undef, undef, undef, undef, undef, undef, undef, undef, undef, undef, undef, undef, undef, undef, undef, undef, undef, undef, undef, undef, undef], defers := [] } : Act) := haZ.trans (by kernel_rfl)
  subst eZ
  clear haZ
  obtain ⟨h6, X6⟩ := F.al 6 rfl rfl
  replace RR : Hid (RB w w2 [((bs 6), (P9 qx qy qn)), (g1_5, (P9 px py pn)), (w.heap.size, (Ar k))]) := ⟨F.bw, (RowsAt.cons X6 (RowsAt.cons (F.row 1 rfl) (RowsAt.cons (F.row 0 rfl) RowsAt.nil)))⟩
  generalize bs 6 = g2_6 at *
  have k2_6_0 := Nat.lt_of_lt_of_le q0 h6
  have k2_6_1 := Nat.lt_of_lt_of_le q1 h6
  clear F qT q0 q1 h6 X6
  go_upto_region 3 with fail
  obtain ⟨q2, q1, q0, qT⟩ := RR.out.r.lts
  refine wp_region_told (by kernel_rfl) (by kernel_rfl) (by kernel_rfl) [(w.heap.size, (Ar k)), (g1_5, (P9 px py pn)), (g2_6, (P9 qx qy qn))]
    [sV (U k),
     sV (B n),
     sV (U m),
     sV (.tuple #[(U s), (.bool false)]),
     sV (.tuple #[(U s), (.bool false)]),
     sV (U s),
     sV (.bool false),
     sA (fun g => .pointer (some ⟨g, 0, none⟩)) 8 Zr (Ar s),
     sS 7,
     sV (.bool false)]
    (by kernel_rfl) RR.out.b (RowsAt.cons (RR.out.at 2 rfl) (RowsAt.cons (RR.out.at 1 rfl) (RowsAt.cons (RR.out.at 0 rfl) RowsAt.nil))) (StOk.of [] rfl StM.nil)
    (Obs.val (fun a' w' E => ob_loada 24 (.tmp 3) rfl (E.old 3 (by kernel_rfl)) (E.row (g := w.heap.size) (c := (Ar k)) 0 rfl) Tryd.underlying24 rfl (by kernel_rfl) rfl)
    (Obs.val (fun a' w' E => ob_move (.tmp 0) rfl (E.old 0 (by kernel_rfl)))
    (Obs.val (fun a' w' E => ob_fcall 13 _ _ rfl (am1 (E.new (v := (B n)) 26 1 (by kernel_rfl) rfl)) (fc13 _ _) (hS.out w'))
    (Obs.val (fun a' w' E => ob_fcall 22 _ _ rfl (am2 (E.new (v := (U k)) 25 0 (by kernel_rfl) rfl) (E.new (v := (U m)) 27 2 (by kernel_rfl) rfl)) (fc22 _ _) (hA.out w'))
    (Obs.val (fun a' w' E => ob_move (.tmp 28) rfl (E.new (v := (.tuple #[(U s), (.bool false)])) 28 3 (by kernel_rfl) rfl))
    (Obs.val (fun a' w' E => ob_extract (.tmp 24) 0 rfl (E.new (v := (.tuple #[(U s), (.bool false)])) 24 4 (by kernel_rfl) rfl) rfl)
    (Obs.val (fun a' w' E => ob_extract (.tmp 24) 1 rfl (E.new (v := (.tuple #[(U s), (.bool false)])) 24 4 (by kernel_rfl) rfl) rfl)
    (Obs.alloc (fun a' w' E => ob_alloc (t := 24) (by simp [opAt, execOp, go_sem]))
    (Obs.sta rfl (fun a' w' g E ha hr => ob_storea 24 (.tmp 9) (.tmp 29) rfl (ha 9 (by kernel_rfl)) (E.new (v := (U s)) 29 5 (by kernel_rfl) rfl) rfl hr (by kernel_rfl) (Nat.le_of_ble_eq_true rfl) (by kernel_rfl) rfl)
    (Obs.val (fun a' w' E => ob_assign (.tmp 30) rfl (E.new (v := (.bool false)) 30 6 (by kernel_rfl) rfl))
    Obs.nil)))))))))) ?_
  intro bs w3 aZ haZ F
  have eZ : aZ = ({ tmps := #[(B n), (U k), undef, (PT w.heap.size), (.bool false), (PT g1_5), (.int .i64 0), (PT g2_6), (.int .i64 0), (PT ((bs 7))), (.bool false), undef, undef, (.tuple #[(A9 px py pn), (.int .i64 0)]), (U k), (.tuple #[(A9 px py pn), (.int .i64 0)]), (A9 px py pn), (.int .i64 0), (.tuple #[(A9 qx qy qn), (.int .i64 0)]), (B n), (U m), (.tuple #[(A9 qx qy qn), (.int .i64 0)]), (A9 qx qy qn), (.int .i64 0), (.tuple #[(U s), (.bool false)]), (U k), (B n), (U m), (.tuple #[(U s), (.bool false)]), (U s), (.bool false), undef, undef, undef, undef, undef, undef, undef, undef, undef, undef, undef, undef, undef, undef, undef, undef, undef, undef, undef, undef, undef, undef, undef, undef, undef, undef, undef, undef, undef, undef, undef, undef, undef, undef, undef, undef, undef], defers := [] } : Act) := haZ.trans (by kernel_rfl)
  subst eZ
  clear haZ
  obtain ⟨h7, X7⟩ := F.al 7 rfl rfl
  replace RR : Hid (RB w w3 [((bs 7), (Ar s)), (g2_6, (P9 qx qy qn)), (g1_5, (P9 px py pn)), (w.heap.size, (Ar k))]) := ⟨F.bw, (RowsAt.cons X7 (RowsAt.cons (F.row 2 rfl) (RowsAt.cons (F.row 1 rfl) (RowsAt.cons (F.row 0 rfl) RowsAt.nil))))⟩
  generalize bs 7 = g3_7 at *
  have k3_7_0 := Nat.lt_of_lt_of_le q0 h7
  have k3_7_1 := Nat.lt_of_lt_of_le q1 h7
  have k3_7_2 := Nat.lt_of_lt_of_le q2 h7
  clear F qT q0 q1 q2 h7 X7
  go_upto_region 4 with fail
  obtain ⟨q3, q2, q1, q0, qT⟩ := RR.out.r.lts
  refine wp_region_told (by kernel_rfl) (by kernel_rfl) (by kernel_rfl) [(w.heap.size, (Ar k)), (g1_5, (P9 px py pn)), (g2_6, (P9 qx qy qn)), (g3_7, (Ar s))]
    [sV (.int .i64 0),
     sV (.bool false),
     sV (.bool false),
     sV (.bool false),
     sV (.bool false),
     sV (.bool false),
     sV (U s),
     sV (U od),
     sV (.int .i64 z),
     sV (.bool false),
     sV (.bool false)]
    (by kernel_rfl) RR.out.b (RowsAt.cons (RR.out.at 3 rfl) (RowsAt.cons (RR.out.at 2 rfl) (RowsAt.cons (RR.out.at 1 rfl) (RowsAt.cons (RR.out.at 0 rfl) RowsAt.nil)))) (StOk.of [] rfl StM.nil)
    (Obs.val (fun a' w' E => ob_move (.tmp 6) rfl (E.old 6 (by kernel_rfl)))
    (Obs.val (fun a' w' E => ob_binOp .neq 27 (.tmp 31) (.const (.int .i64 0)) 27 rfl (E.new (v := (.int .i64 0)) 31 0 (by kernel_rfl) rfl) (evc a' (.int .i64 0)) (by simp [go_sem]))
    (Obs.val (fun a' w' E => ob_move (.tmp 32) rfl (E.new (v := (.bool false)) 32 1 (by kernel_rfl) rfl))
    (Obs.gval rfl rfl (fun a' w' E => E.new 33 2 (by kernel_rfl) rfl) (fun a' w' E => ob_move (.tmp 10) rfl (E.old 10 (by kernel_rfl)))
    (Obs.val (fun a' w' E => ob_pick (.tmp 33) (.const (.bool true)) (.tmp 34) rfl (E.new (v := (.bool false)) 33 2 (by kernel_rfl) rfl) (E.new (v := (.bool false)) 34 3 (by kernel_rfl) rfl))
    (Obs.val (fun a' w' E => ob_move (.tmp 35) rfl (E.new (v := (.bool false)) 35 4 (by kernel_rfl) rfl))
    (Obs.gval rfl rfl (fun a' w' E => E.new 36 5 (by kernel_rfl) rfl) (fun a' w' E => ob_loada 24 (.tmp 9) rfl (E.old 9 (by kernel_rfl)) (E.row (g := g3_7) (c := (Ar s)) 3 rfl) Tryd.underlying24 rfl (by kernel_rfl) rfl)
    (Obs.gval rfl rfl (fun a' w' E => E.new 36 5 (by kernel_rfl) rfl) (fun a' w' E => ob_fcall 20 _ _ rfl (am0) (fc20 _ _) (hO.out w'))
    (Obs.gval rfl rfl (fun a' w' E => E.new 36 5 (by kernel_rfl) rfl) (fun a' w' E => ob_fcall 23 _ _ rfl (am2 (E.new (v := (U s)) 37 6 (by kernel_rfl) rfl) (E.new (v := (U od)) 38 7 (by kernel_rfl) rfl)) (fc23 _ _) (hC.out w'))
    (Obs.gval rfl rfl (fun a' w' E => E.new 36 5 (by kernel_rfl) rfl) (fun a' w' E => ob_binOp .geq 3 (.tmp 39) (.const (.int .i64 0)) 3 rfl (E.new (v := (.int .i64 z)) 39 8 (by kernel_rfl) rfl) (evc a' (.int .i64 0)) (by simp [go_sem, hz]))
    (Obs.val (fun a' w' E => ob_pick (.tmp 36) (.const (.bool true)) (.tmp 40) rfl (E.new (v := (.bool false)) 36 5 (by kernel_rfl) rfl) (E.new (v := (.bool false)) 40 9 (by kernel_rfl) rfl))
    Obs.nil))))))))))) ?_
  intro bs w4 aZ haZ F
  have eZ : aZ = ({ tmps := #[(B n), (U k), undef, (PT w.heap.size), (.bool false), (PT g1_5), (.int .i64 0), (PT g2_6), (.int .i64 0), (PT g3_7), (.bool false), undef, undef, (.tuple #[(A9 px py pn), (.int .i64 0)]), (U k), (.tuple #[(A9 px py pn), (.int .i64 0)]), (A9 px py pn), (.int .i64 0), (.tuple #[(A9 qx qy qn), (.int .i64 0)]), (B n), (U m), (.tuple #[(A9 qx qy qn), (.int .i64 0)]), (A9 qx qy qn), (.int .i64 0), (.tuple #[(U s), (.bool false)]), (U k), (B n), (U m), (.tuple #[(U s), (.bool false)]), (U s), (.bool false), (.int .i64 0), (.bool false), (.bool false), (.bool false), (.bool false), (.bool false), (U s), (U od), (.int .i64 z), (.bool false), (.bool false), undef, undef, undef, undef, undef, undef, undef, undef, undef, undef, undef, undef, undef, undef, undef, undef, undef, undef, undef, undef, undef, undef, undef, undef, undef, undef], defers := [] } : Act) := haZ.trans (by kernel_rfl)
  subst eZ
  clear haZ
  replace RR : Hid (RB w w4 [(g3_7, (Ar s)), (g2_6, (P9 qx qy qn)), (g1_5, (P9 px py pn)), (w.heap.size, (Ar k))]) := ⟨F.bw, (RowsAt.cons (F.row 3 rfl) (RowsAt.cons (F.row 2 rfl) (RowsAt.cons (F.row 1 rfl) (RowsAt.cons (F.row 0 rfl) RowsAt.nil))))⟩
  clear F qT q0 q1 q2 q3
  go_upto_region 6 with fail
  obtain ⟨q3, q2, q1, q0, qT⟩ := RR.out.r.lts
  refine wp_region_told (by kernel_rfl) (by kernel_rfl) (by kernel_rfl) [(w.heap.size, (Ar k)), (g1_5, (P9 px py pn)), (g2_6, (P9 qx qy qn)), (g3_7, (Ar s))]
    [sV (U s),
     sV (.tuple #[(A9 rx ry rn), (.int .i64 0)]),
     sV (.tuple #[(A9 rx ry rn), (.int .i64 0)]),
     sV (A9 rx ry rn),
     sV (.int .i64 0),
     sA (fun g => .pointer (some ⟨g, 0, none⟩)) 6 Z9 (P9 rx ry rn),
     sS 5,
     sV (.int .i64 0)]
    (by kernel_rfl) RR.out.b (RowsAt.cons (RR.out.at 3 rfl) (RowsAt.cons (RR.out.at 2 rfl) (RowsAt.cons (RR.out.at 1 rfl) (RowsAt.cons (RR.out.at 0 rfl) RowsAt.nil)))) (StOk.of [] rfl StM.nil)
    (Obs.val (fun a' w' E => ob_loada 24 (.tmp 9) rfl (E.old 9 (by kernel_rfl)) (E.row (g := g3_7) (c := (Ar s)) 3 rfl) Tryd.underlying24 rfl (by kernel_rfl) rfl)
    (Obs.val (fun a' w' E => ob_fcall 7 _ _ rfl (am1 (E.new (v := (U s)) 48 0 (by kernel_rfl) rfl)) (fc7 _ _) (hR.out w'))
    (Obs.val (fun a' w' E => ob_move (.tmp 49) rfl (E.new (v := (.tuple #[(A9 rx ry rn), (.int .i64 0)])) 49 1 (by kernel_rfl) rfl))
    (Obs.val (fun a' w' E => ob_extract (.tmp 47) 0 rfl (E.new (v := (.tuple #[(A9 rx ry rn), (.int .i64 0)])) 47 2 (by kernel_rfl) rfl) rfl)
    (Obs.val (fun a' w' E => ob_extract (.tmp 47) 1 rfl (E.new (v := (.tuple #[(A9 rx ry rn), (.int .i64 0)])) 47 2 (by kernel_rfl) rfl) rfl)
    (Obs.alloc (fun a' w' E => ob_alloc (t := 26) (by simp [opAt, execOp, go_sem]))
    (Obs.sta rfl (fun a' w' g E ha hr => ob_storea 26 (.tmp 11) (.tmp 50) rfl (ha 11 (by kernel_rfl)) (E.new (v := (A9 rx ry rn)) 50 3 (by kernel_rfl) rfl) rfl hr (by kernel_rfl) (Nat.le_of_ble_eq_true rfl) (by kernel_rfl) rfl)
    (Obs.val (fun a' w' E => ob_assign (.tmp 51) rfl (E.new (v := (.int .i64 0)) 51 4 (by kernel_rfl) rfl))
    Obs.nil)))))))) ?_
  intro bs w5 aZ haZ F
  have eZ : aZ = ({ tmps := #[(B n), (U k), undef, (PT w.heap.size), (.bool false), (PT g1_5), (.int .i64 0), (PT g2_6), (.int .i64 0), (PT g3_7), (.bool false), (PT ((bs 5))), (.int .i64 0), (.tuple #[(A9 px py pn), (.int .i64 0)]), (U k), (.tuple #[(A9 px py pn), (.int .i64 0)]), (A9 px py pn), (.int .i64 0), (.tuple #[(A9 qx qy qn), (.int .i64 0)]), (B n), (U m), (.tuple #[(A9 qx qy qn), (.int .i64 0)]), (A9 qx qy qn), (.int .i64 0), (.tuple #[(U s), (.bool false)]), (U k), (B n), (U m), (.tuple #[(U s), (.bool false)]), (U s), (.bool false), (.int .i64 0), (.bool false), (.bool false), (.bool false), (.bool false), (.bool false), (U s), (U od), (.int .i64 z), (.bool false), (.bool false), undef, undef, undef, undef, undef, (.tuple #[(A9 rx ry rn), (.int .i64 0)]), (U s), (.tuple #[(A9 rx ry rn), (.int .i64 0)]), (A9 rx ry rn), (.int .i64 0), undef, undef, undef, undef, undef, undef, undef, undef, undef, undef, undef, undef, undef, undef, undef, undef], defers := [] } : Act) := haZ.trans (by kernel_rfl)
  subst eZ
  clear haZ
  obtain ⟨h5, X5⟩ := F.al 5 rfl rfl
  replace RR : Hid (RB w w5 [((bs 5), (P9 rx ry rn)), (g3_7, (Ar s)), (g2_6, (P9 qx qy qn)), (g1_5, (P9 px py pn)), (w.heap.size, (Ar k))]) := ⟨F.bw, (RowsAt.cons X5 (RowsAt.cons (F.row 3 rfl) (RowsAt.cons (F.row 2 rfl) (RowsAt.cons (F.row 1 rfl) (RowsAt.cons (F.row 0 rfl) RowsAt.nil)))))⟩
  generalize bs 5 = g5_5 at *
  have k5_5_0 := Nat.lt_of_lt_of_le q0 h5
  have k5_5_1 := Nat.lt_of_lt_of_le q1 h5
  have k5_5_2 := Nat.lt_of_lt_of_le q2 h5
  have k5_5_3 := Nat.lt_of_lt_of_le q3 h5
  clear F qT q0 q1 q2 q3 h5 X5
  go_upto_region 7 with fail
  obtain ⟨q4, q3, q2, q1, q0, qT⟩ := RR.out.r.lts
  refine wp_region_told (by kernel_rfl) (by kernel_rfl) (by kernel_rfl) [(w.heap.size, (Ar k)), (g1_5, (P9 px py pn)), (g2_6, (P9 qx qy qn)), (g3_7, (Ar s)), (g5_5, (P9 rx ry rn))]
    [sV (.int .i64 0),
     sV (.bool true),
     sV (.bool true),
     sV (.int .i64 0),
     sV (.bool true),
     sV (.bool true),
     sV (.bool true),
     sV (A9 rx ry rn),
     sV (A9 px py pn),
     sV (A9 qx qy qn),
     sV (A9 rx ry rn),
     sV (.bool true),
     sV (.bool true),
     sV (.bool true),
     sV (.bool true),
     sV (.bool true),
     sV (.bool true)]
    (by kernel_rfl) RR.out.b (RowsAt.cons (RR.out.at 4 rfl) (RowsAt.cons (RR.out.at 3 rfl) (RowsAt.cons (RR.out.at 2 rfl) (RowsAt.cons (RR.out.at 1 rfl) (RowsAt.cons (RR.out.at 0 rfl) RowsAt.nil))))) (StOk.of [] rfl StM.nil)
    (Obs.val (fun a' w' E => ob_move (.tmp 8) rfl (E.old 8 (by kernel_rfl)))
    (Obs.val (fun a' w' E => ob_binOp .eql 27 (.tmp 52) (.const (.int .i64 0)) 27 rfl (E.new (v := (.int .i64 0)) 52 0 (by kernel_rfl) rfl) (evc a' (.int .i64 0)) (by simp [go_sem]))
    (Obs.val (fun a' w' E => ob_move (.tmp 53) rfl (E.new (v := (.bool true)) 53 1 (by kernel_rfl) rfl))
    (Obs.gval rfl rfl (fun a' w' E => E.new 54 2 (by kernel_rfl) rfl) (fun a' w' E => ob_move (.tmp 12) rfl (E.old 12 (by kernel_rfl)))
    (Obs.gval rfl rfl (fun a' w' E => E.new 54 2 (by kernel_rfl) rfl) (fun a' w' E => ob_binOp .eql 27 (.tmp 55) (.const (.int .i64 0)) 27 rfl (E.new (v := (.int .i64 0)) 55 3 (by kernel_rfl) rfl) (evc a' (.int .i64 0)) (by simp [go_sem]))
    (Obs.val (fun a' w' E => ob_pick (.tmp 54) (.tmp 56) (.const (.bool false)) rfl (E.new (v := (.bool true)) 54 2 (by kernel_rfl) rfl) (E.new (v := (.bool true)) 56 4 (by kernel_rfl) rfl))
    (Obs.val (fun a' w' E => ob_move (.tmp 57) rfl (E.new (v := (.bool true)) 57 5 (by kernel_rfl) rfl))
    (Obs.gval rfl rfl (fun a' w' E => E.new 58 6 (by kernel_rfl) rfl) (fun a' w' E => ob_loada 26 (.tmp 11) rfl (E.old 11 (by kernel_rfl)) (E.row (g := g5_5) (c := (P9 rx ry rn)) 4 rfl) Tryd.underlying26 rfl (by kernel_rfl) rfl)
    (Obs.gval rfl rfl (fun a' w' E => E.new 58 6 (by kernel_rfl) rfl) (fun a' w' E => ob_loada 26 (.tmp 5) rfl (E.old 5 (by kernel_rfl)) (E.row (g := g1_5) (c := (P9 px py pn)) 1 rfl) Tryd.underlying26 rfl (by kernel_rfl) rfl)
    (Obs.gval rfl rfl (fun a' w' E => E.new 58 6 (by kernel_rfl) rfl) (fun a' w' E => ob_loada 26 (.tmp 7) rfl (E.old 7 (by kernel_rfl)) (E.row (g := g2_6) (c := (P9 qx qy qn)) 2 rfl) Tryd.underlying26 rfl (by kernel_rfl) rfl)
    (Obs.gval rfl rfl (fun a' w' E => E.new 58 6 (by kernel_rfl) rfl) (fun a' w' E => ob_fcall 24 _ _ rfl (am2 (E.new (v := (A9 px py pn)) 60 8 (by kernel_rfl) rfl) (E.new (v := (A9 qx qy qn)) 61 9 (by kernel_rfl) rfl)) (fc24 _ _) (hD.out w'))
    (Obs.gval rfl rfl (fun a' w' E => E.new 58 6 (by kernel_rfl) rfl) (fun a' w' E => ob_binOp .eql 26 (.tmp 59) (.tmp 62) 26 rfl (E.new (v := (A9 rx ry rn)) 59 7 (by kernel_rfl) rfl) (E.new (v := (A9 rx ry rn)) 62 10 (by kernel_rfl) rfl) (by simp [go_sem, hE0]))
    (Obs.val (fun a' w' E => ob_pick (.tmp 58) (.tmp 63) (.const (.bool false)) rfl (E.new (v := (.bool true)) 58 6 (by kernel_rfl) rfl) (E.new (v := (.bool true)) 63 11 (by kernel_rfl) rfl))
    (Obs.val (fun a' w' E => ob_move (.tmp 64) rfl (E.new (v := (.bool true)) 64 12 (by kernel_rfl) rfl))
    (Obs.gval rfl rfl (fun a' w' E => E.new 65 13 (by kernel_rfl) rfl) (fun a' w' E => ob_fcall 18 _ _ rfl (am0) (fc18 _ _) (tbl hW HT.out E.bw w'))
    (Obs.val (fun a' w' E => ob_pick (.tmp 65) (.tmp 66) (.const (.bool false)) rfl (E.new (v := (.bool true)) 65 13 (by kernel_rfl) rfl) (E.new (v := (.bool true)) 66 14 (by kernel_rfl) rfl))
    (Obs.val (fun a' w' E => ob_assign (.tmp 67) rfl (E.new (v := (.bool true)) 67 15 (by kernel_rfl) rfl))
    Obs.nil))))))))))))))))) ?_
  intro bs w6 aZ haZ F
  have eZ : aZ = ({ tmps := #[(B n), (U k), undef, (PT w.heap.size), (.bool true), (PT g1_5), (.int .i64 0), (PT g2_6), (.int .i64 0), (PT g3_7), (.bool false), (PT g5_5), (.int .i64 0), (.tuple #[(A9 px py pn), (.int .i64 0)]), (U k), (.tuple #[(A9 px py pn), (.int .i64 0)]), (A9 px py pn), (.int .i64 0), (.tuple #[(A9 qx qy qn), (.int .i64 0)]), (B n), (U m), (.tuple #[(A9 qx qy qn), (.int .i64 0)]), (A9 qx qy qn), (.int .i64 0), (.tuple #[(U s), (.bool false)]), (U k), (B n), (U m), (.tuple #[(U s), (.bool false)]), (U s), (.bool false), (.int .i64 0), (.bool false), (.bool false), (.bool false), (.bool false), (.bool false), (U s), (U od), (.int .i64 z), (.bool false), (.bool false), undef, undef, undef, undef, undef, (.tuple #[(A9 rx ry rn), (.int .i64 0)]), (U s), (.tuple #[(A9 rx ry rn), (.int .i64 0)]), (A9 rx ry rn), (.int .i64 0), (.int .i64 0), (.bool true), (.bool true), (.int .i64 0), (.bool true), (.bool true), (.bool true), (A9 rx ry rn), (A9 px py pn), (A9 qx qy qn), (A9 rx ry rn), (.bool true), (.bool true), (.bool true), (.bool true), (.bool true)], defers := [] } : Act) := haZ.trans (by kernel_rfl)
  subst eZ
  clear haZ
  replace RR : Hid (RB w w6 [(g5_5, (P9 rx ry rn)), (g3_7, (Ar s)), (g2_6, (P9 qx qy qn)), (g1_5, (P9 px py pn)), (w.heap.size, (Ar k))]) := ⟨F.bw, (RowsAt.cons (F.row 4 rfl) (RowsAt.cons (F.row 3 rfl) (RowsAt.cons (F.row 2 rfl) (RowsAt.cons (F.row 1 rfl) (RowsAt.cons (F.row 0 rfl) RowsAt.nil)))))⟩
  clear F qT q0 q1 q2 q3 q4
  go_wp2
  exact bodyPost_ret (v := (.bool true)) (by simp [results, Tryd.results6, go_sem]) rfl ⟨rfl, RR.out.b⟩
end Go.Proofs.YtpdoonofipcbeaaDoor
