/- Raw walks of KeySides, over letters. -/
import Derived.Test.YtpdoonofipcbeaaDoorXdMC
import Derived.Test.YtpdoonofipcbeaaDoorXdQc
import Derived.Test.YtpdoonofipcbeaaDoorXdEq
import Derived.WalkSmall
import Derived.Deep.Cut
import Derived.Deep.Light
namespace Go.Proofs.YtpdoonofipcbeaaDoor
open Go.RowKit Go.Sort
set_option linter.unusedVariables false
set_option maxRecDepth 100000 in
set_option maxHeartbeats 4000000 in
theorem sides_no (k : Nat) (hP : Does 7 #[(U k)] (.tuple #[(A9 0 0 false), (.int .i64 5)])) (hF : Does 11 #[(U k)] (.bool false)) (hW : DoesT 18 #[] (.bool true)) (hE0 : ∀ w, (Op.equalIn 10000 26 (A9 0 0 false) (A9 0 0 false)).run Tryd.prog w = .ok true w)
    (w : World) (ht : Tabs w ki) : Calls Tryd.prog 5 #[(U k)] w fun e w' => e = .returned (.bool true) ∧ Below w.heap.size w w' := by
  have HT : Hid (Tabs w ki) := ht
  clear ht
  go_enter Tryd.func5, Tryd.ntmps5
  go_upto_region 1 with fail
  refine name_world _ ?_
  intro wF hF0
  have RR : Hid (RB w wF [(w.heap.size, (Ar k))]) := by rw [hF0]; exact (rbN (rb0 w) (by simp))
  clear hF0
  obtain ⟨q0, qT⟩ := RR.out.r.lts
  refine wp_region_told (by kernel_rfl) (by kernel_rfl) (by kernel_rfl) [(w.heap.size, (Ar k))]
    [sV (U k),
     sV (.tuple #[(A9 0 0 false), (.int .i64 5)]),
     sV (.tuple #[(A9 0 0 false), (.int .i64 5)]),
     sV (A9 0 0 false),
     sV (.int .i64 5),
     sA (fun g => .pointer (some ⟨g, 0, none⟩)) 6 Z9 (P9 0 0 false),
     sS 5,
     sV (.int .i64 5)]
    (by kernel_rfl) RR.out.b (RowsAt.cons (RR.out.at 0 rfl) RowsAt.nil) (StOk.of [] rfl StM.nil)
    (Obs.val (fun a' w' E => ob_loada 24 (.tmp 1) rfl (E.old 1 (by kernel_rfl)) (E.row (g := w.heap.size) (c := (Ar k)) 0 rfl) Tryd.underlying24 rfl (by kernel_rfl) rfl)
    (Obs.val (fun a' w' E => ob_fcall 7 _ _ rfl (am1 (E.new (v := (U k)) 10 0 (by kernel_rfl) rfl)) (fc7 _ _) (hP.out w'))
    (Obs.val (fun a' w' E => ob_move (.tmp 11) rfl (E.new (v := (.tuple #[(A9 0 0 false), (.int .i64 5)])) 11 1 (by kernel_rfl) rfl))
    (Obs.val (fun a' w' E => ob_extract (.tmp 9) 0 rfl (E.new (v := (.tuple #[(A9 0 0 false), (.int .i64 5)])) 9 2 (by kernel_rfl) rfl) rfl)
    (Obs.val (fun a' w' E => ob_extract (.tmp 9) 1 rfl (E.new (v := (.tuple #[(A9 0 0 false), (.int .i64 5)])) 9 2 (by kernel_rfl) rfl) rfl)
    (Obs.alloc (fun a' w' E => ob_alloc (t := 26) (by simp [opAt, execOp, go_sem]))
    (Obs.sta rfl (fun a' w' g E ha hr => ob_storea 26 (.tmp 3) (.tmp 12) rfl (ha 3 (by kernel_rfl)) (E.new (v := (A9 0 0 false)) 12 3 (by kernel_rfl) rfl) rfl hr (by kernel_rfl) (Nat.le_of_ble_eq_true rfl) (by kernel_rfl) rfl)
    (Obs.val (fun a' w' E => ob_assign (.tmp 13) rfl (E.new (v := (.int .i64 5)) 13 4 (by kernel_rfl) rfl))
    Obs.nil)))))))) ?_
  intro bs w1 aZ haZ F
  have eZ : aZ = ({ tmps := #[(U k), (PT w.heap.size), (.bool false), (PT ((bs 5))), (.int .i64 5), undef, undef, undef, undef, (.tuple #[(A9 0 0 false), (.int .i64 5)]), (U k), (.tuple #[(A9 0 0 false), (.int .i64 5)]), (A9 0 0 false), (.int .i64 5), undef, undef, undef, undef, undef, undef, undef, undef, undef, undef, undef, undef, undef, undef, undef, undef, undef, undef, undef, undef, undef, undef, undef, undef, undef, undef, undef, undef, undef, undef, undef, undef, undef, undef, undef, undef, undef, undef, undef, undef, undef, undef, undef, undef, undef, undef, undef, undef, undef], defers := [] } : Act) := haZ.trans (by kernel_rfl)
  subst eZ
  clear haZ
  obtain ⟨h5, X5⟩ := F.al 5 rfl rfl
  replace RR : Hid (RB w w1 [((bs 5), (P9 0 0 false)), (w.heap.size, (Ar k))]) := ⟨F.bw, (RowsAt.cons X5 (RowsAt.cons (F.row 0 rfl) RowsAt.nil))⟩
  generalize bs 5 = g1_5 at *
  have k1_5_0 := Nat.lt_of_lt_of_le q0 h5
  clear F qT q0 h5 X5
  clear wF
  go_upto_region 2 with fail
  obtain ⟨q1, q0, qT⟩ := RR.out.r.lts
  refine wp_region_told (by kernel_rfl) (by kernel_rfl) (by kernel_rfl) [(w.heap.size, (Ar k)), (g1_5, (P9 0 0 false))]
    [sV (.int .i64 5),
     sV (.bool true)]
    (by kernel_rfl) RR.out.b (RowsAt.cons (RR.out.at 1 rfl) (RowsAt.cons (RR.out.at 0 rfl) RowsAt.nil)) (StOk.of [] rfl StM.nil)
    (Obs.val (fun a' w' E => ob_move (.tmp 4) rfl (E.old 4 (by kernel_rfl)))
    (Obs.val (fun a' w' E => ob_binOp .neq 27 (.tmp 14) (.const (.int .i64 0)) 27 rfl (E.new (v := (.int .i64 5)) 14 0 (by kernel_rfl) rfl) (evc a' (.int .i64 0)) (by simp [go_sem]))
    Obs.nil)) ?_
  intro bs w2 aZ haZ F
  have eZ : aZ = ({ tmps := #[(U k), (PT w.heap.size), (.bool false), (PT g1_5), (.int .i64 5), undef, undef, undef, undef, (.tuple #[(A9 0 0 false), (.int .i64 5)]), (U k), (.tuple #[(A9 0 0 false), (.int .i64 5)]), (A9 0 0 false), (.int .i64 5), (.int .i64 5), (.bool true), undef, undef, undef, undef, undef, undef, undef, undef, undef, undef, undef, undef, undef, undef, undef, undef, undef, undef, undef, undef, undef, undef, undef, undef, undef, undef, undef, undef, undef, undef, undef, undef, undef, undef, undef, undef, undef, undef, undef, undef, undef, undef, undef, undef, undef, undef, undef], defers := [] } : Act) := haZ.trans (by kernel_rfl)
  subst eZ
  clear haZ
  replace RR : Hid (RB w w2 [(g1_5, (P9 0 0 false)), (w.heap.size, (Ar k))]) := ⟨F.bw, (RowsAt.cons (F.row 1 rfl) (RowsAt.cons (F.row 0 rfl) RowsAt.nil))⟩
  clear F qT q0 q1
  go_upto_region 3 with fail
  obtain ⟨q1, q0, qT⟩ := RR.out.r.lts
  refine wp_region_told (by kernel_rfl) (by kernel_rfl) (by kernel_rfl) [(w.heap.size, (Ar k)), (g1_5, (P9 0 0 false))]
    [sV (A9 0 0 false),
     sV (A9 0 0 false),
     sV (.bool true),
     sV (.bool true),
     sV (U k),
     sV (.bool false),
     sV (.bool true),
     sV (.bool true),
     sV (.bool true),
     sV (.bool true),
     sV (.bool true),
     sV (.bool true)]
    (by kernel_rfl) RR.out.b (RowsAt.cons (RR.out.at 1 rfl) (RowsAt.cons (RR.out.at 0 rfl) RowsAt.nil)) (StOk.of [] rfl StM.nil)
    (Obs.val (fun a' w' E => ob_loada 26 (.tmp 3) rfl (E.old 3 (by kernel_rfl)) (E.row (g := g1_5) (c := (P9 0 0 false)) 1 rfl) Tryd.underlying26 rfl (by kernel_rfl) rfl)
    (Obs.val (fun a' w' E => ob_build 26 _ rfl (pm0) (bd26_ w'))
    (Obs.val (fun a' w' E => ob_binOp .eql 26 (.tmp 16) (.tmp 17) 26 rfl (E.new (v := (A9 0 0 false)) 16 0 (by kernel_rfl) rfl) (E.new (v := (A9 0 0 false)) 17 1 (by kernel_rfl) rfl) (by simp [go_sem, hE0]))
    (Obs.val (fun a' w' E => ob_move (.tmp 18) rfl (E.new (v := (.bool true)) 18 2 (by kernel_rfl) rfl))
    (Obs.gval rfl rfl (fun a' w' E => E.new 19 3 (by kernel_rfl) rfl) (fun a' w' E => ob_loada 24 (.tmp 1) rfl (E.old 1 (by kernel_rfl)) (E.row (g := w.heap.size) (c := (Ar k)) 0 rfl) Tryd.underlying24 rfl (by kernel_rfl) rfl)
    (Obs.gval rfl rfl (fun a' w' E => E.new 19 3 (by kernel_rfl) rfl) (fun a' w' E => ob_fcall 11 _ _ rfl (am1 (E.new (v := (U k)) 20 4 (by kernel_rfl) rfl)) (fc11 _ _) (hF.out w'))
    (Obs.gval rfl rfl (fun a' w' E => E.new 19 3 (by kernel_rfl) rfl) (fun a' w' E => ob_unOp .not 4 (.tmp 21) rfl (E.new (v := (.bool false)) 21 5 (by kernel_rfl) rfl) (by simp [go_sem]))
    (Obs.val (fun a' w' E => ob_pick (.tmp 19) (.tmp 22) (.const (.bool false)) rfl (E.new (v := (.bool true)) 19 3 (by kernel_rfl) rfl) (E.new (v := (.bool true)) 22 6 (by kernel_rfl) rfl))
    (Obs.val (fun a' w' E => ob_move (.tmp 23) rfl (E.new (v := (.bool true)) 23 7 (by kernel_rfl) rfl))
    (Obs.gval rfl rfl (fun a' w' E => E.new 24 8 (by kernel_rfl) rfl) (fun a' w' E => ob_fcall 18 _ _ rfl (am0) (fc18 _ _) (tbl hW HT.out E.bw w'))
    (Obs.val (fun a' w' E => ob_pick (.tmp 24) (.tmp 25) (.const (.bool false)) rfl (E.new (v := (.bool true)) 24 8 (by kernel_rfl) rfl) (E.new (v := (.bool true)) 25 9 (by kernel_rfl) rfl))
    (Obs.val (fun a' w' E => ob_assign (.tmp 26) rfl (E.new (v := (.bool true)) 26 10 (by kernel_rfl) rfl))
    Obs.nil)))))))))))) ?_
  intro bs w3 aZ haZ F
  have eZ : aZ = ({ tmps := #[(U k), (PT w.heap.size), (.bool true), (PT g1_5), (.int .i64 5), undef, undef, undef, undef, (.tuple #[(A9 0 0 false), (.int .i64 5)]), (U k), (.tuple #[(A9 0 0 false), (.int .i64 5)]), (A9 0 0 false), (.int .i64 5), (.int .i64 5), (.bool true), (A9 0 0 false), (A9 0 0 false), (.bool true), (.bool true), (U k), (.bool false), (.bool true), (.bool true), (.bool true), (.bool true), (.bool true), undef, undef, undef, undef, undef, undef, undef, undef, undef, undef, undef, undef, undef, undef, undef, undef, undef, undef, undef, undef, undef, undef, undef, undef, undef, undef, undef, undef, undef, undef, undef, undef, undef, undef, undef, undef], defers := [] } : Act) := haZ.trans (by kernel_rfl)
  subst eZ
  clear haZ
  replace RR : Hid (RB w w3 [(g1_5, (P9 0 0 false)), (w.heap.size, (Ar k))]) := ⟨F.bw, (RowsAt.cons (F.row 1 rfl) (RowsAt.cons (F.row 0 rfl) RowsAt.nil))⟩
  clear F qT q0 q1
  go_wp2
  exact bodyPost_ret (v := (.bool true)) (by simp [results, Tryd.results5, go_sem]) rfl ⟨rfl, RR.out.b⟩
set_option maxRecDepth 100000 in
set_option maxHeartbeats 4000000 in
theorem sides_yes (k px py qx qy od o : Nat) (qn ov : Bool) (hP : Does 7 #[(U k)] (.tuple #[(A9 px py false), (.int .i64 0)])) (hO : Does 20 #[] (U od)) (hS : Does 19 #[(U od), (U k)] (.tuple #[(U o), (.bool ov)])) (hQ : Does 7 #[(U o)] (.tuple #[(A9 qx qy qn), (.int .i64 0)])) (hN : Does 15 #[(A9 px py false)] (.bool true)) (hG : Does 21 #[(A9 px py false)] (A9 qx qy qn)) (hW : DoesT 18 #[] (.bool true)) (hE0 : ∀ w, (Op.equalIn 10000 26 (A9 qx qy qn) (A9 qx qy qn)).run Tryd.prog w = .ok true w) (hE1 : ∀ w, (Op.equalIn 10000 26 (A9 px py false) (A9 qx qy qn)).run Tryd.prog w = .ok false w)
    (w : World) (ht : Tabs w ki) : Calls Tryd.prog 5 #[(U k)] w fun e w' => e = .returned (.bool true) ∧ Below w.heap.size w w' := by
  have HT : Hid (Tabs w ki) := ht
  clear ht
  go_enter Tryd.func5, Tryd.ntmps5
  go_upto_region 1 with fail
  refine name_world _ ?_
  intro wF hF0
  have RR : Hid (RB w wF [(w.heap.size, (Ar k))]) := by rw [hF0]; exact (rbN (rb0 w) (by simp))
  clear hF0
  obtain ⟨q0, qT⟩ := RR.out.r.lts
  refine wp_region_told (by kernel_rfl) (by kernel_rfl) (by kernel_rfl) [(w.heap.size, (Ar k))]
    [sV (U k),
     sV (.tuple #[(A9 px py false), (.int .i64 0)]),
     sV (.tuple #[(A9 px py false), (.int .i64 0)]),
     sV (A9 px py false),
     sV (.int .i64 0),
     sA (fun g => .pointer (some ⟨g, 0, none⟩)) 6 Z9 (P9 px py false),
     sS 5,
     sV (.int .i64 0)]
    (by kernel_rfl) RR.out.b (RowsAt.cons (RR.out.at 0 rfl) RowsAt.nil) (StOk.of [] rfl StM.nil)
    (Obs.val (fun a' w' E => ob_loada 24 (.tmp 1) rfl (E.old 1 (by kernel_rfl)) (E.row (g := w.heap.size) (c := (Ar k)) 0 rfl) Tryd.underlying24 rfl (by kernel_rfl) rfl)
    (Obs.val (fun a' w' E => ob_fcall 7 _ _ rfl (am1 (E.new (v := (U k)) 10 0 (by kernel_rfl) rfl)) (fc7 _ _) (hP.out w'))
    (Obs.val (fun a' w' E => ob_move (.tmp 11) rfl (E.new (v := (.tuple #[(A9 px py false), (.int .i64 0)])) 11 1 (by kernel_rfl) rfl))
    (Obs.val (fun a' w' E => ob_extract (.tmp 9) 0 rfl (E.new (v := (.tuple #[(A9 px py false), (.int .i64 0)])) 9 2 (by kernel_rfl) rfl) rfl)
    (Obs.val (fun a' w' E => ob_extract (.tmp 9) 1 rfl (E.new (v := (.tuple #[(A9 px py false), (.int .i64 0)])) 9 2 (by kernel_rfl) rfl) rfl)
    (Obs.alloc (fun a' w' E => ob_alloc (t := 26) (by simp [opAt, execOp, go_sem]))
    (Obs.sta rfl (fun a' w' g E ha hr => ob_storea 26 (.tmp 3) (.tmp 12) rfl (ha 3 (by kernel_rfl)) (E.new (v := (A9 px py false)) 12 3 (by kernel_rfl) rfl) rfl hr (by kernel_rfl) (Nat.le_of_ble_eq_true rfl) (by kernel_rfl) rfl)
    (Obs.val (fun a' w' E => ob_assign (.tmp 13) rfl (E.new (v := (.int .i64 0)) 13 4 (by kernel_rfl) rfl))
    Obs.nil)))))))) ?_
  intro bs w1 aZ haZ F
  have eZ : aZ = ({ tmps := #[(U k), (PT w.heap.size), (.bool false), (PT ((bs 5))), (.int .i64 0), undef, undef, undef, undef, (.tuple #[(A9 px py false), (.int .i64 0)]), (U k), (.tuple #[(A9 px py false), (.int .i64 0)]), (A9 px py false), (.int .i64 0), undef, undef, undef, undef, undef, undef, undef, undef, undef, undef, undef, undef, undef, undef, undef, undef, undef, undef, undef, undef, undef, undef, undef, undef, undef, undef, undef, undef, undef, undef, undef, undef, undef, undef, undef, undef, undef, undef, undef, undef, undef, undef, undef, undef, undef, undef, undef, undef, undef], defers := [] } : Act) := haZ.trans (by kernel_rfl)
  subst eZ
  clear haZ
  obtain ⟨h5, X5⟩ := F.al 5 rfl rfl
  replace RR : Hid (RB w w1 [((bs 5), (P9 px py false)), (w.heap.size, (Ar k))]) := ⟨F.bw, (RowsAt.cons X5 (RowsAt.cons (F.row 0 rfl) RowsAt.nil))⟩
  generalize bs 5 = g1_5 at *
  have k1_5_0 := Nat.lt_of_lt_of_le q0 h5
  clear F qT q0 h5 X5
  clear wF
  go_upto_region 2 with fail
  obtain ⟨q1, q0, qT⟩ := RR.out.r.lts
  refine wp_region_told (by kernel_rfl) (by kernel_rfl) (by kernel_rfl) [(w.heap.size, (Ar k)), (g1_5, (P9 px py false))]
    [sV (.int .i64 0),
     sV (.bool false)]
    (by kernel_rfl) RR.out.b (RowsAt.cons (RR.out.at 1 rfl) (RowsAt.cons (RR.out.at 0 rfl) RowsAt.nil)) (StOk.of [] rfl StM.nil)
    (Obs.val (fun a' w' E => ob_move (.tmp 4) rfl (E.old 4 (by kernel_rfl)))
    (Obs.val (fun a' w' E => ob_binOp .neq 27 (.tmp 14) (.const (.int .i64 0)) 27 rfl (E.new (v := (.int .i64 0)) 14 0 (by kernel_rfl) rfl) (evc a' (.int .i64 0)) (by simp [go_sem]))
    Obs.nil)) ?_
  intro bs w2 aZ haZ F
  have eZ : aZ = ({ tmps := #[(U k), (PT w.heap.size), (.bool false), (PT g1_5), (.int .i64 0), undef, undef, undef, undef, (.tuple #[(A9 px py false), (.int .i64 0)]), (U k), (.tuple #[(A9 px py false), (.int .i64 0)]), (A9 px py false), (.int .i64 0), (.int .i64 0), (.bool false), undef, undef, undef, undef, undef, undef, undef, undef, undef, undef, undef, undef, undef, undef, undef, undef, undef, undef, undef, undef, undef, undef, undef, undef, undef, undef, undef, undef, undef, undef, undef, undef, undef, undef, undef, undef, undef, undef, undef, undef, undef, undef, undef, undef, undef, undef, undef], defers := [] } : Act) := haZ.trans (by kernel_rfl)
  subst eZ
  clear haZ
  replace RR : Hid (RB w w2 [(g1_5, (P9 px py false)), (w.heap.size, (Ar k))]) := ⟨F.bw, (RowsAt.cons (F.row 1 rfl) (RowsAt.cons (F.row 0 rfl) RowsAt.nil))⟩
  clear F qT q0 q1
  go_upto_region 4 with fail
  obtain ⟨q1, q0, qT⟩ := RR.out.r.lts
  refine wp_region_told (by kernel_rfl) (by kernel_rfl) (by kernel_rfl) [(w.heap.size, (Ar k)), (g1_5, (P9 px py false))]
    [sV (U od),
     sV (U k),
     sV (.tuple #[(U o), (.bool ov)]),
     sV (.tuple #[(U o), (.bool ov)]),
     sV (U o),
     sV (.bool ov),
     sA (fun g => .pointer (some ⟨g, 0, none⟩)) 7 Zr (Ar o),
     sS 6,
     sV (.bool ov)]
    (by kernel_rfl) RR.out.b (RowsAt.cons (RR.out.at 1 rfl) (RowsAt.cons (RR.out.at 0 rfl) RowsAt.nil)) (StOk.of [] rfl StM.nil)
    (Obs.val (fun a' w' E => ob_fcall 20 _ _ rfl (am0) (fc20 _ _) (hO.out w'))
    (Obs.val (fun a' w' E => ob_loada 24 (.tmp 1) rfl (E.old 1 (by kernel_rfl)) (E.row (g := w.heap.size) (c := (Ar k)) 0 rfl) Tryd.underlying24 rfl (by kernel_rfl) rfl)
    (Obs.val (fun a' w' E => ob_fcall 19 _ _ rfl (am2 (E.new (v := (U od)) 28 0 (by kernel_rfl) rfl) (E.new (v := (U k)) 29 1 (by kernel_rfl) rfl)) (fc19 _ _) (hS.out w'))
    (Obs.val (fun a' w' E => ob_move (.tmp 30) rfl (E.new (v := (.tuple #[(U o), (.bool ov)])) 30 2 (by kernel_rfl) rfl))
    (Obs.val (fun a' w' E => ob_extract (.tmp 27) 0 rfl (E.new (v := (.tuple #[(U o), (.bool ov)])) 27 3 (by kernel_rfl) rfl) rfl)
    (Obs.val (fun a' w' E => ob_extract (.tmp 27) 1 rfl (E.new (v := (.tuple #[(U o), (.bool ov)])) 27 3 (by kernel_rfl) rfl) rfl)
    (Obs.alloc (fun a' w' E => ob_alloc (t := 24) (by simp [opAt, execOp, go_sem]))
    (Obs.sta rfl (fun a' w' g E ha hr => ob_storea 24 (.tmp 5) (.tmp 31) rfl (ha 5 (by kernel_rfl)) (E.new (v := (U o)) 31 4 (by kernel_rfl) rfl) rfl hr (by kernel_rfl) (Nat.le_of_ble_eq_true rfl) (by kernel_rfl) rfl)
    (Obs.val (fun a' w' E => ob_assign (.tmp 32) rfl (E.new (v := (.bool ov)) 32 5 (by kernel_rfl) rfl))
    Obs.nil))))))))) ?_
  intro bs w3 aZ haZ F
  have eZ : aZ = ({ tmps := #[(U k), (PT w.heap.size), (.bool false), (PT g1_5), (.int .i64 0), (PT ((bs 6))), (.bool ov), undef, undef, (.tuple #[(A9 px py false), (.int .i64 0)]), (U k), (.tuple #[(A9 px py false), (.int .i64 0)]), (A9 px py false), (.int .i64 0), (.int .i64 0), (.bool false), undef, undef, undef, undef, undef, undef, undef, undef, undef, undef, undef, (.tuple #[(U o), (.bool ov)]), (U od), (U k), (.tuple #[(U o), (.bool ov)]), (U o), (.bool ov), undef, undef, undef, undef, undef, undef, undef, undef, undef, undef, undef, undef, undef, undef, undef, undef, undef, undef, undef, undef, undef, undef, undef, undef, undef, undef, undef, undef, undef, undef], defers := [] } : Act) := haZ.trans (by kernel_rfl)
  subst eZ
  clear haZ
  obtain ⟨h6, X6⟩ := F.al 6 rfl rfl
  replace RR : Hid (RB w w3 [((bs 6), (Ar o)), (g1_5, (P9 px py false)), (w.heap.size, (Ar k))]) := ⟨F.bw, (RowsAt.cons X6 (RowsAt.cons (F.row 1 rfl) (RowsAt.cons (F.row 0 rfl) RowsAt.nil)))⟩
  generalize bs 6 = g3_6 at *
  have k3_6_0 := Nat.lt_of_lt_of_le q0 h6
  have k3_6_1 := Nat.lt_of_lt_of_le q1 h6
  clear F qT q0 q1 h6 X6
  go_upto_region 5 with fail
  obtain ⟨q2, q1, q0, qT⟩ := RR.out.r.lts
  refine wp_region_told (by kernel_rfl) (by kernel_rfl) (by kernel_rfl) [(w.heap.size, (Ar k)), (g1_5, (P9 px py false)), (g3_6, (Ar o))]
    [sV (U o),
     sV (.tuple #[(A9 qx qy qn), (.int .i64 0)]),
     sV (.tuple #[(A9 qx qy qn), (.int .i64 0)]),
     sV (A9 qx qy qn),
     sV (.int .i64 0),
     sA (fun g => .pointer (some ⟨g, 0, none⟩)) 6 Z9 (P9 qx qy qn),
     sS 5,
     sV (.int .i64 0)]
    (by kernel_rfl) RR.out.b (RowsAt.cons (RR.out.at 2 rfl) (RowsAt.cons (RR.out.at 1 rfl) (RowsAt.cons (RR.out.at 0 rfl) RowsAt.nil))) (StOk.of [] rfl StM.nil)
    (Obs.val (fun a' w' E => ob_loada 24 (.tmp 5) rfl (E.old 5 (by kernel_rfl)) (E.row (g := g3_6) (c := (Ar o)) 2 rfl) Tryd.underlying24 rfl (by kernel_rfl) rfl)
    (Obs.val (fun a' w' E => ob_fcall 7 _ _ rfl (am1 (E.new (v := (U o)) 34 0 (by kernel_rfl) rfl)) (fc7 _ _) (hQ.out w'))
    (Obs.val (fun a' w' E => ob_move (.tmp 35) rfl (E.new (v := (.tuple #[(A9 qx qy qn), (.int .i64 0)])) 35 1 (by kernel_rfl) rfl))
    (Obs.val (fun a' w' E => ob_extract (.tmp 33) 0 rfl (E.new (v := (.tuple #[(A9 qx qy qn), (.int .i64 0)])) 33 2 (by kernel_rfl) rfl) rfl)
    (Obs.val (fun a' w' E => ob_extract (.tmp 33) 1 rfl (E.new (v := (.tuple #[(A9 qx qy qn), (.int .i64 0)])) 33 2 (by kernel_rfl) rfl) rfl)
    (Obs.alloc (fun a' w' E => ob_alloc (t := 26) (by simp [opAt, execOp, go_sem]))
    (Obs.sta rfl (fun a' w' g E ha hr => ob_storea 26 (.tmp 7) (.tmp 36) rfl (ha 7 (by kernel_rfl)) (E.new (v := (A9 qx qy qn)) 36 3 (by kernel_rfl) rfl) rfl hr (by kernel_rfl) (Nat.le_of_ble_eq_true rfl) (by kernel_rfl) rfl)
    (Obs.val (fun a' w' E => ob_assign (.tmp 37) rfl (E.new (v := (.int .i64 0)) 37 4 (by kernel_rfl) rfl))
    Obs.nil)))))))) ?_
  intro bs w4 aZ haZ F
  have eZ : aZ = ({ tmps := #[(U k), (PT w.heap.size), (.bool false), (PT g1_5), (.int .i64 0), (PT g3_6), (.bool ov), (PT ((bs 5))), (.int .i64 0), (.tuple #[(A9 px py false), (.int .i64 0)]), (U k), (.tuple #[(A9 px py false), (.int .i64 0)]), (A9 px py false), (.int .i64 0), (.int .i64 0), (.bool false), undef, undef, undef, undef, undef, undef, undef, undef, undef, undef, undef, (.tuple #[(U o), (.bool ov)]), (U od), (U k), (.tuple #[(U o), (.bool ov)]), (U o), (.bool ov), (.tuple #[(A9 qx qy qn), (.int .i64 0)]), (U o), (.tuple #[(A9 qx qy qn), (.int .i64 0)]), (A9 qx qy qn), (.int .i64 0), undef, undef, undef, undef, undef, undef, undef, undef, undef, undef, undef, undef, undef, undef, undef, undef, undef, undef, undef, undef, undef, undef, undef, undef, undef], defers := [] } : Act) := haZ.trans (by kernel_rfl)
  subst eZ
  clear haZ
  obtain ⟨h5, X5⟩ := F.al 5 rfl rfl
  replace RR : Hid (RB w w4 [((bs 5), (P9 qx qy qn)), (g3_6, (Ar o)), (g1_5, (P9 px py false)), (w.heap.size, (Ar k))]) := ⟨F.bw, (RowsAt.cons X5 (RowsAt.cons (F.row 2 rfl) (RowsAt.cons (F.row 1 rfl) (RowsAt.cons (F.row 0 rfl) RowsAt.nil))))⟩
  generalize bs 5 = g4_5 at *
  have k4_5_0 := Nat.lt_of_lt_of_le q0 h5
  have k4_5_1 := Nat.lt_of_lt_of_le q1 h5
  have k4_5_2 := Nat.lt_of_lt_of_le q2 h5
  clear F qT q0 q1 q2 h5 X5
  go_upto_region 6 with fail
  obtain ⟨q3, q2, q1, q0, qT⟩ := RR.out.r.lts
  refine wp_region_told (by kernel_rfl) (by kernel_rfl) (by kernel_rfl) [(w.heap.size, (Ar k)), (g1_5, (P9 px py false)), (g3_6, (Ar o)), (g4_5, (P9 qx qy qn))]
    [sV (A9 px py false),
     sV (.bool true),
     sV (.bool true),
     sV (PO g1_5 8),
     sV (.bool false),
     sV (.bool true),
     sV (.bool true),
     sV (.bool true),
     sV (.int .i64 0),
     sV (.bool true),
     sV (.bool true),
     sV (.bool true),
     sV (A9 qx qy qn),
     sV (A9 px py false),
     sV (A9 qx qy qn),
     sV (.bool true),
     sV (.bool true),
     sV (.bool true),
     sV (A9 px py false),
     sV (A9 qx qy qn),
     sV (.bool true),
     sV (.bool true),
     sV (.bool true),
     sV (.bool true),
     sV (.bool true),
     sV (.bool true)]
    (by kernel_rfl) RR.out.b (RowsAt.cons (RR.out.at 3 rfl) (RowsAt.cons (RR.out.at 2 rfl) (RowsAt.cons (RR.out.at 1 rfl) (RowsAt.cons (RR.out.at 0 rfl) RowsAt.nil)))) (StOk.of [] rfl StM.nil)
    (Obs.val (fun a' w' E => ob_loada 26 (.tmp 3) rfl (E.old 3 (by kernel_rfl)) (E.row (g := g1_5) (c := (P9 px py false)) 1 rfl) Tryd.underlying26 rfl (by kernel_rfl) rfl)
    (Obs.val (fun a' w' E => ob_fcall 15 _ _ rfl (am1 (E.new (v := (A9 px py false)) 38 0 (by kernel_rfl) rfl)) (fc15 _ _) (hN.out w'))
    (Obs.val (fun a' w' E => ob_move (.tmp 39) rfl (E.new (v := (.bool true)) 39 1 (by kernel_rfl) rfl))
    (Obs.gval rfl rfl (fun a' w' E => E.new 40 2 (by kernel_rfl) rfl) (fun a' w' E => ob_fieldAddr 26 (.tmp 3) 2 rfl (E.old 3 (by kernel_rfl)) (fa26_2 _ _ w'))
    (Obs.gval rfl rfl (fun a' w' E => E.new 40 2 (by kernel_rfl) rfl) (fun a' w' E => ob_load1 4 (.tmp 41) rfl (E.new (v := (PO g1_5 8)) 41 3 (by kernel_rfl) rfl) (E.row (g := g1_5) (c := (P9 px py false)) 1 rfl) Tryd.underlying4 rfl rfl)
    (Obs.gval rfl rfl (fun a' w' E => E.new 40 2 (by kernel_rfl) rfl) (fun a' w' E => ob_unOp .not 4 (.tmp 42) rfl (E.new (v := (.bool false)) 42 4 (by kernel_rfl) rfl) (by simp [go_sem]))
    (Obs.val (fun a' w' E => ob_pick (.tmp 40) (.tmp 43) (.const (.bool false)) rfl (E.new (v := (.bool true)) 40 2 (by kernel_rfl) rfl) (E.new (v := (.bool true)) 43 5 (by kernel_rfl) rfl))
    (Obs.val (fun a' w' E => ob_move (.tmp 44) rfl (E.new (v := (.bool true)) 44 6 (by kernel_rfl) rfl))
    (Obs.gval rfl rfl (fun a' w' E => E.new 45 7 (by kernel_rfl) rfl) (fun a' w' E => ob_move (.tmp 8) rfl (E.old 8 (by kernel_rfl)))
    (Obs.gval rfl rfl (fun a' w' E => E.new 45 7 (by kernel_rfl) rfl) (fun a' w' E => ob_binOp .eql 27 (.tmp 46) (.const (.int .i64 0)) 27 rfl (E.new (v := (.int .i64 0)) 46 8 (by kernel_rfl) rfl) (evc a' (.int .i64 0)) (by simp [go_sem]))
    (Obs.val (fun a' w' E => ob_pick (.tmp 45) (.tmp 47) (.const (.bool false)) rfl (E.new (v := (.bool true)) 45 7 (by kernel_rfl) rfl) (E.new (v := (.bool true)) 47 9 (by kernel_rfl) rfl))
    (Obs.val (fun a' w' E => ob_move (.tmp 48) rfl (E.new (v := (.bool true)) 48 10 (by kernel_rfl) rfl))
    (Obs.gval rfl rfl (fun a' w' E => E.new 49 11 (by kernel_rfl) rfl) (fun a' w' E => ob_loada 26 (.tmp 7) rfl (E.old 7 (by kernel_rfl)) (E.row (g := g4_5) (c := (P9 qx qy qn)) 3 rfl) Tryd.underlying26 rfl (by kernel_rfl) rfl)
    (Obs.gval rfl rfl (fun a' w' E => E.new 49 11 (by kernel_rfl) rfl) (fun a' w' E => ob_loada 26 (.tmp 3) rfl (E.old 3 (by kernel_rfl)) (E.row (g := g1_5) (c := (P9 px py false)) 1 rfl) Tryd.underlying26 rfl (by kernel_rfl) rfl)
    (Obs.gval rfl rfl (fun a' w' E => E.new 49 11 (by kernel_rfl) rfl) (fun a' w' E => ob_fcall 21 _ _ rfl (am1 (E.new (v := (A9 px py false)) 51 13 (by kernel_rfl) rfl)) (fc21 _ _) (hG.out w'))
    (Obs.gval rfl rfl (fun a' w' E => E.new 49 11 (by kernel_rfl) rfl) (fun a' w' E => ob_binOp .eql 26 (.tmp 50) (.tmp 52) 26 rfl (E.new (v := (A9 qx qy qn)) 50 12 (by kernel_rfl) rfl) (E.new (v := (A9 qx qy qn)) 52 14 (by kernel_rfl) rfl) (by simp [go_sem, hE0]))
    (Obs.val (fun a' w' E => ob_pick (.tmp 49) (.tmp 53) (.const (.bool false)) rfl (E.new (v := (.bool true)) 49 11 (by kernel_rfl) rfl) (E.new (v := (.bool true)) 53 15 (by kernel_rfl) rfl))
    (Obs.val (fun a' w' E => ob_move (.tmp 54) rfl (E.new (v := (.bool true)) 54 16 (by kernel_rfl) rfl))
    (Obs.gval rfl rfl (fun a' w' E => E.new 55 17 (by kernel_rfl) rfl) (fun a' w' E => ob_loada 26 (.tmp 3) rfl (E.old 3 (by kernel_rfl)) (E.row (g := g1_5) (c := (P9 px py false)) 1 rfl) Tryd.underlying26 rfl (by kernel_rfl) rfl)
    (Obs.gval rfl rfl (fun a' w' E => E.new 55 17 (by kernel_rfl) rfl) (fun a' w' E => ob_loada 26 (.tmp 7) rfl (E.old 7 (by kernel_rfl)) (E.row (g := g4_5) (c := (P9 qx qy qn)) 3 rfl) Tryd.underlying26 rfl (by kernel_rfl) rfl)
    (Obs.gval rfl rfl (fun a' w' E => E.new 55 17 (by kernel_rfl) rfl) (fun a' w' E => ob_binOp .neq 26 (.tmp 56) (.tmp 57) 26 rfl (E.new (v := (A9 px py false)) 56 18 (by kernel_rfl) rfl) (E.new (v := (A9 qx qy qn)) 57 19 (by kernel_rfl) rfl) (by simp [go_sem, hE1]))
    (Obs.val (fun a' w' E => ob_pick (.tmp 55) (.tmp 58) (.const (.bool false)) rfl (E.new (v := (.bool true)) 55 17 (by kernel_rfl) rfl) (E.new (v := (.bool true)) 58 20 (by kernel_rfl) rfl))
    (Obs.val (fun a' w' E => ob_move (.tmp 59) rfl (E.new (v := (.bool true)) 59 21 (by kernel_rfl) rfl))
    (Obs.gval rfl rfl (fun a' w' E => E.new 60 22 (by kernel_rfl) rfl) (fun a' w' E => ob_fcall 18 _ _ rfl (am0) (fc18 _ _) (tbl hW HT.out E.bw w'))
    (Obs.val (fun a' w' E => ob_pick (.tmp 60) (.tmp 61) (.const (.bool false)) rfl (E.new (v := (.bool true)) 60 22 (by kernel_rfl) rfl) (E.new (v := (.bool true)) 61 23 (by kernel_rfl) rfl))
    (Obs.val (fun a' w' E => ob_assign (.tmp 62) rfl (E.new (v := (.bool true)) 62 24 (by kernel_rfl) rfl))
    Obs.nil)))))))))))))))))))))))))) ?_
  intro bs w5 aZ haZ F
  have eZ : aZ = ({ tmps := #[(U k), (PT w.heap.size), (.bool true), (PT g1_5), (.int .i64 0), (PT g3_6), (.bool ov), (PT g4_5), (.int .i64 0), (.tuple #[(A9 px py false), (.int .i64 0)]), (U k), (.tuple #[(A9 px py false), (.int .i64 0)]), (A9 px py false), (.int .i64 0), (.int .i64 0), (.bool false), undef, undef, undef, undef, undef, undef, undef, undef, undef, undef, undef, (.tuple #[(U o), (.bool ov)]), (U od), (U k), (.tuple #[(U o), (.bool ov)]), (U o), (.bool ov), (.tuple #[(A9 qx qy qn), (.int .i64 0)]), (U o), (.tuple #[(A9 qx qy qn), (.int .i64 0)]), (A9 qx qy qn), (.int .i64 0), (A9 px py false), (.bool true), (.bool true), (PO g1_5 8), (.bool false), (.bool true), (.bool true), (.bool true), (.int .i64 0), (.bool true), (.bool true), (.bool true), (A9 qx qy qn), (A9 px py false), (A9 qx qy qn), (.bool true), (.bool true), (.bool true), (A9 px py false), (A9 qx qy qn), (.bool true), (.bool true), (.bool true), (.bool true), (.bool true)], defers := [] } : Act) := haZ.trans (by kernel_rfl)
  subst eZ
  clear haZ
  replace RR : Hid (RB w w5 [(g4_5, (P9 qx qy qn)), (g3_6, (Ar o)), (g1_5, (P9 px py false)), (w.heap.size, (Ar k))]) := ⟨F.bw, (RowsAt.cons (F.row 3 rfl) (RowsAt.cons (F.row 2 rfl) (RowsAt.cons (F.row 1 rfl) (RowsAt.cons (F.row 0 rfl) RowsAt.nil))))⟩
  clear F qT q0 q1 q2 q3
  go_wp2
  exact bodyPost_ret (v := (.bool true)) (by simp [results, Tryd.results5, go_sem]) rfl ⟨rfl, RR.out.b⟩
end Go.Proofs.YtpdoonofipcbeaaDoor
