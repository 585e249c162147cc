/- Raw walks of the document's points, over letters. -/
import Derived.Test.YtpdoonofipcbeaaDoorXsBa
import Derived.Test.YtpdoonofipcbeaaDoorXsQc
import Derived.Test.YtpdoonofipcbeaaDoorXsEq
import Derived.WalkSmall
import Derived.Deep.Cut
import Derived.Deep.Light
namespace Go.Proofs.YtpdoonofipcbeaaDoor
open Go.RowKit Go.Sort
set_option linter.unusedVariables false
set_option maxRecDepth 100000 in
set_option maxHeartbeats 4000000 in
theorem double_z (x y z : Nat)
    (e1 : ∀ w, (Op.equalIn 10000 24 (U z) (U 0)).run Tryd.prog w = .ok true w)
    (w : World) : Calls Tryd.prog 51 #[(A3 x y z)] w fun e w' => e = .returned (A3 0 0 0) ∧ Below w.heap.size w w' := by
  go_enter Tryd.func51, Tryd.ntmps51
  go_upto_region 1 with fail
  refine name_world _ ?_
  intro wF hF0
  have RR : Hid (RB w wF [(w.heap.size + 1, Z12), (w.heap.size, (T3 x y z))]) := by rw [hF0]; exact (rbN (rbN (rb0 w) (by simp)) (by simp))
  clear hF0
  obtain ⟨q1, q0, qT⟩ := RR.out.r.lts
  refine wp_region_told (by kernel_rfl) (by kernel_rfl) (by kernel_rfl) [(w.heap.size, (T3 x y z)), (w.heap.size + 1, Z12)]
    [sV (PO w.heap.size 8),
     sV (U z),
     sV (U 0),
     sV (.bool true),
     sV (.bool true),
     sV undef,
     sV undef,
     sV undef,
     sV undef,
     sV (.bool true)]
    (by kernel_rfl) RR.out.b (RowsAt.cons (RR.out.at 1 rfl) (RowsAt.cons (RR.out.at 0 rfl) RowsAt.nil)) (StOk.of [] rfl StM.nil)
    (Obs.val (fun a' w' E => ob_fieldAddr 63 (.tmp 1) 2 rfl (E.old 1 (by kernel_rfl)) (fa63_2 _ _ w'))
    (Obs.val (fun a' w' E => ob_loada 24 (.tmp 11) rfl (E.new (v := (PO w.heap.size 8)) 11 0 (by kernel_rfl) rfl) (E.row (g := w.heap.size) (c := (T3 x y z)) 0 rfl) Tryd.underlying24 rfl (by kernel_rfl) rfl)
    (Obs.val (fun a' w' E => ob_build 24 _ rfl (pm0) (bd24_ w'))
    (Obs.val (fun a' w' E => ob_binOp .eql 24 (.tmp 12) (.tmp 13) 24 rfl (E.new (v := (U z)) 12 1 (by kernel_rfl) rfl) (E.new (v := (U 0)) 13 2 (by kernel_rfl) rfl) (by simp [go_sem, e1]))
    (Obs.val (fun a' w' E => ob_move (.tmp 14) rfl (E.new (v := (.bool true)) 14 3 (by kernel_rfl) rfl))
    (Obs.skip rfl rfl (fun a' w' E => E.new 15 4 (by kernel_rfl) rfl) (by decide) 
    (Obs.skip rfl rfl (fun a' w' E => E.new 15 4 (by kernel_rfl) rfl) (by decide) 
    (Obs.skip rfl rfl (fun a' w' E => E.new 15 4 (by kernel_rfl) rfl) (by decide) 
    (Obs.skip rfl rfl (fun a' w' E => E.new 15 4 (by kernel_rfl) rfl) (by decide) 
    (Obs.val (fun a' w' E => ob_pick (.tmp 15) (.const (.bool true)) (.tmp 19) rfl (E.new (v := (.bool true)) 15 4 (by kernel_rfl) rfl) (evc a' (.bool true)))
    Obs.nil)))))))))) ?_
  intro bs w1 aZ haZ F
  have eZ : aZ = ({ tmps := #[(A3 x y z), (PT w.heap.size), (PT (w.heap.size + 1)), undef, undef, undef, undef, undef, undef, undef, undef, (PO w.heap.size 8), (U z), (U 0), (.bool true), (.bool true), undef, undef, undef, undef, (.bool true), undef, undef, undef, undef, undef, undef, undef, undef, undef, undef, undef, undef, undef, undef, undef, undef, undef, undef, undef, undef, undef, undef, undef, undef, undef, undef, undef, undef, undef, undef, undef, undef, undef, undef, undef, undef, undef, undef, undef, undef, undef, undef, undef, undef, undef, undef, undef, undef, undef, undef, undef, undef, undef, undef, undef, undef, undef, undef, undef, undef, undef, undef, undef], defers := [] } : Act) := haZ.trans (by kernel_rfl)
  subst eZ
  clear haZ
  replace RR : Hid (RB w w1 [(w.heap.size + 1, Z12), (w.heap.size, (T3 x y z))]) := ⟨F.bw, (RowsAt.cons (F.row 1 rfl) (RowsAt.cons (F.row 0 rfl) RowsAt.nil))⟩
  clear F qT q0 q1
  clear wF
  go_upto_region 2 with fail
  obtain ⟨q1, q0, qT⟩ := RR.out.r.lts
  refine wp_region_told (by kernel_rfl) (by kernel_rfl) (by kernel_rfl) [(w.heap.size, (T3 x y z))]
    [sV (A3 0 0 0),
     sK (w.heap.size + 1) Z12 (T3 0 0 0)]
    (by kernel_rfl) RR.out.b (RowsAt.cons (RR.out.at 1 rfl) RowsAt.nil) (StOk.of [(w.heap.size + 1, Z12)] rfl (StM.cons (RR.out.at 0 rfl) (by omega) (Apart.cons (by omega) Apart.nil) Apart.nil StM.nil))
    (Obs.val (fun a' w' E => ob_build 63 _ rfl (pm0) (bd63_ w'))
    (Obs.stk (fun a' w' E hr => ob_storea 63 (.tmp 2) (.tmp 21) rfl (E.old 2 (by kernel_rfl)) (E.new (v := (A3 0 0 0)) 21 0 (by kernel_rfl) rfl) rfl hr (by kernel_rfl) (Nat.le_of_ble_eq_true rfl) (by kernel_rfl) rfl)
    Obs.nil)) ?_
  intro bs w2 aZ haZ F
  have eZ : aZ = ({ tmps := #[(A3 x y z), (PT w.heap.size), (PT (w.heap.size + 1)), undef, undef, undef, undef, undef, undef, undef, undef, (PO w.heap.size 8), (U z), (U 0), (.bool true), (.bool true), undef, undef, undef, undef, (.bool true), (A3 0 0 0), undef, undef, undef, undef, undef, undef, undef, undef, undef, undef, undef, undef, undef, undef, undef, undef, undef, undef, undef, undef, undef, undef, undef, undef, undef, undef, undef, undef, undef, undef, undef, undef, undef, undef, undef, undef, undef, undef, undef, undef, undef, undef, undef, undef, undef, undef, undef, undef, undef, undef, undef, undef, undef, undef, undef, undef, undef, undef, undef, undef, undef, undef], defers := [] } : Act) := haZ.trans (by kernel_rfl)
  subst eZ
  clear haZ
  replace RR : Hid (RB w w2 [(w.heap.size + 1, (T3 0 0 0)), (w.heap.size, (T3 x y z))]) := ⟨F.bw, (RowsAt.cons (F.sk 1 rfl) (RowsAt.cons (F.row 0 rfl) RowsAt.nil))⟩
  clear F qT q0 q1
  go_wp2
  exact bodyPost_ret (v := (A3 0 0 0)) (resA (p := 2) (ty := 63) rfl (g := w.heap.size + 1) rfl (RR.out.at 0 rfl) Tryd.underlying63 rfl (by kernel_rfl)) rfl ⟨rfl, RR.out.b⟩
set_option maxRecDepth 100000 in
set_option maxHeartbeats 4000000 in
theorem double_y (x y z : Nat)
    (e1 : ∀ w, (Op.equalIn 10000 24 (U z) (U 0)).run Tryd.prog w = .ok false w)
    (e2 : ∀ w, (Op.equalIn 10000 24 (U y) (U 0)).run Tryd.prog w = .ok true w)
    (w : World) : Calls Tryd.prog 51 #[(A3 x y z)] w fun e w' => e = .returned (A3 0 0 0) ∧ Below w.heap.size w w' := by
  go_enter Tryd.func51, Tryd.ntmps51
  go_upto_region 1 with fail
  refine name_world _ ?_
  intro wF hF0
  have RR : Hid (RB w wF [(w.heap.size + 1, Z12), (w.heap.size, (T3 x y z))]) := by rw [hF0]; exact (rbN (rbN (rb0 w) (by simp)) (by simp))
  clear hF0
  obtain ⟨q1, q0, qT⟩ := RR.out.r.lts
  refine wp_region_told (by kernel_rfl) (by kernel_rfl) (by kernel_rfl) [(w.heap.size, (T3 x y z)), (w.heap.size + 1, Z12)]
    [sV (PO w.heap.size 8),
     sV (U z),
     sV (U 0),
     sV (.bool false),
     sV (.bool false),
     sV (PO w.heap.size 4),
     sV (U y),
     sV (U 0),
     sV (.bool true),
     sV (.bool true)]
    (by kernel_rfl) RR.out.b (RowsAt.cons (RR.out.at 1 rfl) (RowsAt.cons (RR.out.at 0 rfl) RowsAt.nil)) (StOk.of [] rfl StM.nil)
    (Obs.val (fun a' w' E => ob_fieldAddr 63 (.tmp 1) 2 rfl (E.old 1 (by kernel_rfl)) (fa63_2 _ _ w'))
    (Obs.val (fun a' w' E => ob_loada 24 (.tmp 11) rfl (E.new (v := (PO w.heap.size 8)) 11 0 (by kernel_rfl) rfl) (E.row (g := w.heap.size) (c := (T3 x y z)) 0 rfl) Tryd.underlying24 rfl (by kernel_rfl) rfl)
    (Obs.val (fun a' w' E => ob_build 24 _ rfl (pm0) (bd24_ w'))
    (Obs.val (fun a' w' E => ob_binOp .eql 24 (.tmp 12) (.tmp 13) 24 rfl (E.new (v := (U z)) 12 1 (by kernel_rfl) rfl) (E.new (v := (U 0)) 13 2 (by kernel_rfl) rfl) (by simp [go_sem, e1]))
    (Obs.val (fun a' w' E => ob_move (.tmp 14) rfl (E.new (v := (.bool false)) 14 3 (by kernel_rfl) rfl))
    (Obs.gval rfl rfl (fun a' w' E => E.new 15 4 (by kernel_rfl) rfl) (fun a' w' E => ob_fieldAddr 63 (.tmp 1) 1 rfl (E.old 1 (by kernel_rfl)) (fa63_1 _ _ w'))
    (Obs.gval rfl rfl (fun a' w' E => E.new 15 4 (by kernel_rfl) rfl) (fun a' w' E => ob_loada 24 (.tmp 16) rfl (E.new (v := (PO w.heap.size 4)) 16 5 (by kernel_rfl) rfl) (E.row (g := w.heap.size) (c := (T3 x y z)) 0 rfl) Tryd.underlying24 rfl (by kernel_rfl) rfl)
    (Obs.gval rfl rfl (fun a' w' E => E.new 15 4 (by kernel_rfl) rfl) (fun a' w' E => ob_build 24 _ rfl (pm0) (bd24_ w'))
    (Obs.gval rfl rfl (fun a' w' E => E.new 15 4 (by kernel_rfl) rfl) (fun a' w' E => ob_binOp .eql 24 (.tmp 17) (.tmp 18) 24 rfl (E.new (v := (U y)) 17 6 (by kernel_rfl) rfl) (E.new (v := (U 0)) 18 7 (by kernel_rfl) rfl) (by simp [go_sem, e2]))
    (Obs.val (fun a' w' E => ob_pick (.tmp 15) (.const (.bool true)) (.tmp 19) rfl (E.new (v := (.bool false)) 15 4 (by kernel_rfl) rfl) (E.new (v := (.bool true)) 19 8 (by kernel_rfl) rfl))
    Obs.nil)))))))))) ?_
  intro bs w1 aZ haZ F
  have eZ : aZ = ({ tmps := #[(A3 x y z), (PT w.heap.size), (PT (w.heap.size + 1)), undef, undef, undef, undef, undef, undef, undef, undef, (PO w.heap.size 8), (U z), (U 0), (.bool false), (.bool false), (PO w.heap.size 4), (U y), (U 0), (.bool true), (.bool true), undef, undef, undef, undef, undef, undef, undef, undef, undef, undef, undef, undef, undef, undef, undef, undef, undef, undef, undef, undef, undef, undef, undef, undef, undef, undef, undef, undef, undef, undef, undef, undef, undef, undef, undef, undef, undef, undef, undef, undef, undef, undef, undef, undef, undef, undef, undef, undef, undef, undef, undef, undef, undef, undef, undef, undef, undef, undef, undef, undef, undef, undef, undef], defers := [] } : Act) := haZ.trans (by kernel_rfl)
  subst eZ
  clear haZ
  replace RR : Hid (RB w w1 [(w.heap.size + 1, Z12), (w.heap.size, (T3 x y z))]) := ⟨F.bw, (RowsAt.cons (F.row 1 rfl) (RowsAt.cons (F.row 0 rfl) RowsAt.nil))⟩
  clear F qT q0 q1
  clear wF
  go_upto_region 2 with fail
  obtain ⟨q1, q0, qT⟩ := RR.out.r.lts
  refine wp_region_told (by kernel_rfl) (by kernel_rfl) (by kernel_rfl) [(w.heap.size, (T3 x y z))]
    [sV (A3 0 0 0),
     sK (w.heap.size + 1) Z12 (T3 0 0 0)]
    (by kernel_rfl) RR.out.b (RowsAt.cons (RR.out.at 1 rfl) RowsAt.nil) (StOk.of [(w.heap.size + 1, Z12)] rfl (StM.cons (RR.out.at 0 rfl) (by omega) (Apart.cons (by omega) Apart.nil) Apart.nil StM.nil))
    (Obs.val (fun a' w' E => ob_build 63 _ rfl (pm0) (bd63_ w'))
    (Obs.stk (fun a' w' E hr => ob_storea 63 (.tmp 2) (.tmp 21) rfl (E.old 2 (by kernel_rfl)) (E.new (v := (A3 0 0 0)) 21 0 (by kernel_rfl) rfl) rfl hr (by kernel_rfl) (Nat.le_of_ble_eq_true rfl) (by kernel_rfl) rfl)
    Obs.nil)) ?_
  intro bs w2 aZ haZ F
  have eZ : aZ = ({ tmps := #[(A3 x y z), (PT w.heap.size), (PT (w.heap.size + 1)), undef, undef, undef, undef, undef, undef, undef, undef, (PO w.heap.size 8), (U z), (U 0), (.bool false), (.bool false), (PO w.heap.size 4), (U y), (U 0), (.bool true), (.bool true), (A3 0 0 0), undef, undef, undef, undef, undef, undef, undef, undef, undef, undef, undef, undef, undef, undef, undef, undef, undef, undef, undef, undef, undef, undef, undef, undef, undef, undef, undef, undef, undef, undef, undef, undef, undef, undef, undef, undef, undef, undef, undef, undef, undef, undef, undef, undef, undef, undef, undef, undef, undef, undef, undef, undef, undef, undef, undef, undef, undef, undef, undef, undef, undef, undef], defers := [] } : Act) := haZ.trans (by kernel_rfl)
  subst eZ
  clear haZ
  replace RR : Hid (RB w w2 [(w.heap.size + 1, (T3 0 0 0)), (w.heap.size, (T3 x y z))]) := ⟨F.bw, (RowsAt.cons (F.sk 1 rfl) (RowsAt.cons (F.row 0 rfl) RowsAt.nil))⟩
  clear F qT q0 q1
  go_wp2
  exact bodyPost_ret (v := (A3 0 0 0)) (resA (p := 2) (ty := 63) rfl (g := w.heap.size + 1) rfl (RR.out.at 0 rfl) Tryd.underlying63 rfl (by kernel_rfl)) rfl ⟨rfl, RR.out.b⟩
set_option maxRecDepth 100000 in
set_option maxHeartbeats 4000000 in
theorem double_raw (x y z : Nat) {m_0 m_1 m_2 m_3 a_4 a_5 a_6 a_7 m_8 a_9 d_10 a_11 a_12 a_13 d_14 m_15 d_16 m_17 a_18 : Nat}
    (e1 : ∀ w, (Op.equalIn 10000 24 (U z) (U 0)).run Tryd.prog w = .ok false w)
    (e2 : ∀ w, (Op.equalIn 10000 24 (U y) (U 0)).run Tryd.prog w = .ok false w)
    (c3 : Does 36 #[(U x), (U x)] (U m_0))
    (c4 : Does 36 #[(U y), (U y)] (U m_1))
    (c5 : Does 36 #[(U m_1), (U m_1)] (U m_2))
    (c6 : Does 36 #[(U x), (U m_1)] (U m_3))
    (c7 : Does 58 #[(U m_3), (U m_3)] (U a_4))
    (c8 : Does 58 #[(U a_4), (U a_4)] (U a_5))
    (c9 : Does 58 #[(U m_0), (U m_0)] (U a_6))
    (c10 : Does 58 #[(U a_6), (U m_0)] (U a_7))
    (c11 : Does 36 #[(U a_7), (U a_7)] (U m_8))
    (c12 : Does 58 #[(U a_5), (U a_5)] (U a_9))
    (c13 : Does 43 #[(U m_8), (U a_9)] (U d_10))
    (c14 : Does 58 #[(U m_2), (U m_2)] (U a_11))
    (c15 : Does 58 #[(U a_11), (U a_11)] (U a_12))
    (c16 : Does 58 #[(U a_12), (U a_12)] (U a_13))
    (c17 : Does 43 #[(U a_5), (U d_10)] (U d_14))
    (c18 : Does 36 #[(U a_7), (U d_14)] (U m_15))
    (c19 : Does 43 #[(U m_15), (U a_13)] (U d_16))
    (c20 : Does 36 #[(U y), (U z)] (U m_17))
    (c21 : Does 58 #[(U m_17), (U m_17)] (U a_18))
    (w : World) : Calls Tryd.prog 51 #[(A3 x y z)] w fun e w' => e = .returned (A3 d_10 d_16 a_18) ∧ Below w.heap.size w w' := by
  go_enter Tryd.func51, Tryd.ntmps51
  go_upto_region 1 with fail
  refine name_world _ ?_
  intro wF hF0
  have RR : Hid (RB w wF [(w.heap.size + 1, Z12), (w.heap.size, (T3 x y z))]) := by rw [hF0]; exact (rbN (rbN (rb0 w) (by simp)) (by simp))
  clear hF0
  obtain ⟨q1, q0, qT⟩ := RR.out.r.lts
  refine wp_region_told (by kernel_rfl) (by kernel_rfl) (by kernel_rfl) [(w.heap.size, (T3 x y z)), (w.heap.size + 1, Z12)]
    [sV (PO w.heap.size 8),
     sV (U z),
     sV (U 0),
     sV (.bool false),
     sV (.bool false),
     sV (PO w.heap.size 4),
     sV (U y),
     sV (U 0),
     sV (.bool false),
     sV (.bool false)]
    (by kernel_rfl) RR.out.b (RowsAt.cons (RR.out.at 1 rfl) (RowsAt.cons (RR.out.at 0 rfl) RowsAt.nil)) (StOk.of [] rfl StM.nil)
    (Obs.val (fun a' w' E => ob_fieldAddr 63 (.tmp 1) 2 rfl (E.old 1 (by kernel_rfl)) (fa63_2 _ _ w'))
    (Obs.val (fun a' w' E => ob_loada 24 (.tmp 11) rfl (E.new (v := (PO w.heap.size 8)) 11 0 (by kernel_rfl) rfl) (E.row (g := w.heap.size) (c := (T3 x y z)) 0 rfl) Tryd.underlying24 rfl (by kernel_rfl) rfl)
    (Obs.val (fun a' w' E => ob_build 24 _ rfl (pm0) (bd24_ w'))
    (Obs.val (fun a' w' E => ob_binOp .eql 24 (.tmp 12) (.tmp 13) 24 rfl (E.new (v := (U z)) 12 1 (by kernel_rfl) rfl) (E.new (v := (U 0)) 13 2 (by kernel_rfl) rfl) (by simp [go_sem, e1]))
    (Obs.val (fun a' w' E => ob_move (.tmp 14) rfl (E.new (v := (.bool false)) 14 3 (by kernel_rfl) rfl))
    (Obs.gval rfl rfl (fun a' w' E => E.new 15 4 (by kernel_rfl) rfl) (fun a' w' E => ob_fieldAddr 63 (.tmp 1) 1 rfl (E.old 1 (by kernel_rfl)) (fa63_1 _ _ w'))
    (Obs.gval rfl rfl (fun a' w' E => E.new 15 4 (by kernel_rfl) rfl) (fun a' w' E => ob_loada 24 (.tmp 16) rfl (E.new (v := (PO w.heap.size 4)) 16 5 (by kernel_rfl) rfl) (E.row (g := w.heap.size) (c := (T3 x y z)) 0 rfl) Tryd.underlying24 rfl (by kernel_rfl) rfl)
    (Obs.gval rfl rfl (fun a' w' E => E.new 15 4 (by kernel_rfl) rfl) (fun a' w' E => ob_build 24 _ rfl (pm0) (bd24_ w'))
    (Obs.gval rfl rfl (fun a' w' E => E.new 15 4 (by kernel_rfl) rfl) (fun a' w' E => ob_binOp .eql 24 (.tmp 17) (.tmp 18) 24 rfl (E.new (v := (U y)) 17 6 (by kernel_rfl) rfl) (E.new (v := (U 0)) 18 7 (by kernel_rfl) rfl) (by simp [go_sem, e2]))
    (Obs.val (fun a' w' E => ob_pick (.tmp 15) (.const (.bool true)) (.tmp 19) rfl (E.new (v := (.bool false)) 15 4 (by kernel_rfl) rfl) (E.new (v := (.bool false)) 19 8 (by kernel_rfl) rfl))
    Obs.nil)))))))))) ?_
  intro bs w1 aZ haZ F
  have eZ : aZ = ({ tmps := #[(A3 x y z), (PT w.heap.size), (PT (w.heap.size + 1)), undef, undef, undef, undef, undef, undef, undef, undef, (PO w.heap.size 8), (U z), (U 0), (.bool false), (.bool false), (PO w.heap.size 4), (U y), (U 0), (.bool false), (.bool false), undef, undef, undef, undef, undef, undef, undef, undef, undef, undef, undef, undef, undef, undef, undef, undef, undef, undef, undef, undef, undef, undef, undef, undef, undef, undef, undef, undef, undef, undef, undef, undef, undef, undef, undef, undef, undef, undef, undef, undef, undef, undef, undef, undef, undef, undef, undef, undef, undef, undef, undef, undef, undef, undef, undef, undef, undef, undef, undef, undef, undef, undef, undef], defers := [] } : Act) := haZ.trans (by kernel_rfl)
  subst eZ
  clear haZ
  replace RR : Hid (RB w w1 [(w.heap.size + 1, Z12), (w.heap.size, (T3 x y z))]) := ⟨F.bw, (RowsAt.cons (F.row 1 rfl) (RowsAt.cons (F.row 0 rfl) RowsAt.nil))⟩
  clear F qT q0 q1
  clear wF
  go_upto_region 3 with fail
  obtain ⟨q1, q0, qT⟩ := RR.out.r.lts
  refine wp_region_told (by kernel_rfl) (by kernel_rfl) (by kernel_rfl) [(w.heap.size, (T3 x y z)), (w.heap.size + 1, Z12)]
    [sV (PT w.heap.size),
     sV (U x),
     sV (PT w.heap.size),
     sV (U x),
     sV (U m_0),
     sA (fun g => .pointer (some ⟨g, 0, none⟩)) 6 Zr (Ar m_0),
     sS 5]
    (by kernel_rfl) RR.out.b (RowsAt.cons (RR.out.at 1 rfl) (RowsAt.cons (RR.out.at 0 rfl) RowsAt.nil)) (StOk.of [] rfl StM.nil)
    (Obs.val (fun a' w' E => ob_fieldAddr 63 (.tmp 1) 0 rfl (E.old 1 (by kernel_rfl)) (fa63_0 _ _ w'))
    (Obs.val (fun a' w' E => ob_loada 24 (.tmp 22) rfl (E.new (v := (PT w.heap.size)) 22 0 (by kernel_rfl) rfl) (E.row (g := w.heap.size) (c := (T3 x y z)) 0 rfl) Tryd.underlying24 rfl (by kernel_rfl) rfl)
    (Obs.val (fun a' w' E => ob_fieldAddr 63 (.tmp 1) 0 rfl (E.old 1 (by kernel_rfl)) (fa63_0 _ _ w'))
    (Obs.val (fun a' w' E => ob_loada 24 (.tmp 24) rfl (E.new (v := (PT w.heap.size)) 24 2 (by kernel_rfl) rfl) (E.row (g := w.heap.size) (c := (T3 x y z)) 0 rfl) Tryd.underlying24 rfl (by kernel_rfl) rfl)
    (Obs.val (fun a' w' E => ob_fcall 36 _ _ rfl (am2 (E.new (v := (U x)) 23 1 (by kernel_rfl) rfl) (E.new (v := (U x)) 25 3 (by kernel_rfl) rfl)) (fc36 _ _) (c3.out w'))
    (Obs.alloc (fun a' w' E => ob_alloc (t := 24) (by simp [opAt, execOp, go_sem]))
    (Obs.sta rfl (fun a' w' g E ha hr => ob_storea 24 (.tmp 3) (.tmp 26) rfl (ha 3 (by kernel_rfl)) (E.new (v := (U m_0)) 26 4 (by kernel_rfl) rfl) rfl hr (by kernel_rfl) (Nat.le_of_ble_eq_true rfl) (by kernel_rfl) rfl)
    Obs.nil))))))) ?_
  intro bs w2 aZ haZ F
  have eZ : aZ = ({ tmps := #[(A3 x y z), (PT w.heap.size), (PT (w.heap.size + 1)), (PT ((bs 5))), undef, undef, undef, undef, undef, undef, undef, (PO w.heap.size 8), (U z), (U 0), (.bool false), (.bool false), (PO w.heap.size 4), (U y), (U 0), (.bool false), (.bool false), undef, (PT w.heap.size), (U x), (PT w.heap.size), (U x), (U m_0), undef, undef, undef, undef, undef, undef, undef, undef, undef, undef, undef, undef, undef, undef, undef, undef, undef, undef, undef, undef, undef, undef, undef, undef, undef, undef, undef, undef, undef, undef, undef, undef, undef, undef, undef, undef, undef, undef, undef, undef, undef, undef, undef, undef, undef, undef, undef, undef, undef, undef, undef, undef, undef, undef, undef, undef, undef], defers := [] } : Act) := haZ.trans (by kernel_rfl)
  subst eZ
  clear haZ
  obtain ⟨h5, X5⟩ := F.al 5 rfl rfl
  replace RR : Hid (RB w w2 [((bs 5), (Ar m_0)), (w.heap.size + 1, Z12), (w.heap.size, (T3 x y z))]) := ⟨F.bw, (RowsAt.cons X5 (RowsAt.cons (F.row 1 rfl) (RowsAt.cons (F.row 0 rfl) RowsAt.nil)))⟩
  generalize bs 5 = g2_5 at *
  have k2_5_0 := Nat.lt_of_lt_of_le q0 h5
  have k2_5_1 := Nat.lt_of_lt_of_le q1 h5
  clear F qT q0 q1 h5 X5
  go_upto_region 4 with fail
  obtain ⟨q2, q1, q0, qT⟩ := RR.out.r.lts
  refine wp_region_told (by kernel_rfl) (by kernel_rfl) (by kernel_rfl) [(w.heap.size, (T3 x y z)), (w.heap.size + 1, Z12), (g2_5, (Ar m_0))]
    [sV (PO w.heap.size 4),
     sV (U y),
     sV (PO w.heap.size 4),
     sV (U y),
     sV (U m_1),
     sA (fun g => .pointer (some ⟨g, 0, none⟩)) 6 Zr (Ar m_1),
     sS 5]
    (by kernel_rfl) RR.out.b (RowsAt.cons (RR.out.at 2 rfl) (RowsAt.cons (RR.out.at 1 rfl) (RowsAt.cons (RR.out.at 0 rfl) RowsAt.nil))) (StOk.of [] rfl StM.nil)
    (Obs.val (fun a' w' E => ob_fieldAddr 63 (.tmp 1) 1 rfl (E.old 1 (by kernel_rfl)) (fa63_1 _ _ w'))
    (Obs.val (fun a' w' E => ob_loada 24 (.tmp 27) rfl (E.new (v := (PO w.heap.size 4)) 27 0 (by kernel_rfl) rfl) (E.row (g := w.heap.size) (c := (T3 x y z)) 0 rfl) Tryd.underlying24 rfl (by kernel_rfl) rfl)
    (Obs.val (fun a' w' E => ob_fieldAddr 63 (.tmp 1) 1 rfl (E.old 1 (by kernel_rfl)) (fa63_1 _ _ w'))
    (Obs.val (fun a' w' E => ob_loada 24 (.tmp 29) rfl (E.new (v := (PO w.heap.size 4)) 29 2 (by kernel_rfl) rfl) (E.row (g := w.heap.size) (c := (T3 x y z)) 0 rfl) Tryd.underlying24 rfl (by kernel_rfl) rfl)
    (Obs.val (fun a' w' E => ob_fcall 36 _ _ rfl (am2 (E.new (v := (U y)) 28 1 (by kernel_rfl) rfl) (E.new (v := (U y)) 30 3 (by kernel_rfl) rfl)) (fc36 _ _) (c4.out w'))
    (Obs.alloc (fun a' w' E => ob_alloc (t := 24) (by simp [opAt, execOp, go_sem]))
    (Obs.sta rfl (fun a' w' g E ha hr => ob_storea 24 (.tmp 4) (.tmp 31) rfl (ha 4 (by kernel_rfl)) (E.new (v := (U m_1)) 31 4 (by kernel_rfl) rfl) rfl hr (by kernel_rfl) (Nat.le_of_ble_eq_true rfl) (by kernel_rfl) rfl)
    Obs.nil))))))) ?_
  intro bs w3 aZ haZ F
  have eZ : aZ = ({ tmps := #[(A3 x y z), (PT w.heap.size), (PT (w.heap.size + 1)), (PT g2_5), (PT ((bs 5))), undef, undef, undef, undef, undef, undef, (PO w.heap.size 8), (U z), (U 0), (.bool false), (.bool false), (PO w.heap.size 4), (U y), (U 0), (.bool false), (.bool false), undef, (PT w.heap.size), (U x), (PT w.heap.size), (U x), (U m_0), (PO w.heap.size 4), (U y), (PO w.heap.size 4), (U y), (U m_1), undef, undef, undef, undef, undef, undef, undef, undef, undef, undef, undef, undef, undef, undef, undef, undef, undef, undef, undef, undef, undef, undef, undef, undef, undef, undef, undef, undef, undef, undef, undef, undef, undef, undef, undef, undef, undef, undef, undef, undef, undef, undef, undef, undef, undef, undef, undef, undef, undef, undef, undef, undef], defers := [] } : Act) := haZ.trans (by kernel_rfl)
  subst eZ
  clear haZ
  obtain ⟨h5, X5⟩ := F.al 5 rfl rfl
  replace RR : Hid (RB w w3 [((bs 5), (Ar m_1)), (g2_5, (Ar m_0)), (w.heap.size + 1, Z12), (w.heap.size, (T3 x y z))]) := ⟨F.bw, (RowsAt.cons X5 (RowsAt.cons (F.row 2 rfl) (RowsAt.cons (F.row 1 rfl) (RowsAt.cons (F.row 0 rfl) RowsAt.nil))))⟩
  generalize bs 5 = g3_5 at *
  have k3_5_0 := Nat.lt_of_lt_of_le q0 h5
  have k3_5_1 := Nat.lt_of_lt_of_le q1 h5
  have k3_5_2 := Nat.lt_of_lt_of_le q2 h5
  clear F qT q0 q1 q2 h5 X5
  go_upto_region 5 with fail
  obtain ⟨q3, q2, q1, q0, qT⟩ := RR.out.r.lts
  refine wp_region_told (by kernel_rfl) (by kernel_rfl) (by kernel_rfl) [(w.heap.size, (T3 x y z)), (w.heap.size + 1, Z12), (g2_5, (Ar m_0)), (g3_5, (Ar m_1))]
    [sV (U m_1),
     sV (U m_1),
     sV (U m_2),
     sA (fun g => .pointer (some ⟨g, 0, none⟩)) 4 Zr (Ar m_2),
     sS 3]
    (by kernel_rfl) RR.out.b (RowsAt.cons (RR.out.at 3 rfl) (RowsAt.cons (RR.out.at 2 rfl) (RowsAt.cons (RR.out.at 1 rfl) (RowsAt.cons (RR.out.at 0 rfl) RowsAt.nil)))) (StOk.of [] rfl StM.nil)
    (Obs.val (fun a' w' E => ob_loada 24 (.tmp 4) rfl (E.old 4 (by kernel_rfl)) (E.row (g := g3_5) (c := (Ar m_1)) 3 rfl) Tryd.underlying24 rfl (by kernel_rfl) rfl)
    (Obs.val (fun a' w' E => ob_loada 24 (.tmp 4) rfl (E.old 4 (by kernel_rfl)) (E.row (g := g3_5) (c := (Ar m_1)) 3 rfl) Tryd.underlying24 rfl (by kernel_rfl) rfl)
    (Obs.val (fun a' w' E => ob_fcall 36 _ _ rfl (am2 (E.new (v := (U m_1)) 32 0 (by kernel_rfl) rfl) (E.new (v := (U m_1)) 33 1 (by kernel_rfl) rfl)) (fc36 _ _) (c5.out w'))
    (Obs.alloc (fun a' w' E => ob_alloc (t := 24) (by simp [opAt, execOp, go_sem]))
    (Obs.sta rfl (fun a' w' g E ha hr => ob_storea 24 (.tmp 5) (.tmp 34) rfl (ha 5 (by kernel_rfl)) (E.new (v := (U m_2)) 34 2 (by kernel_rfl) rfl) rfl hr (by kernel_rfl) (Nat.le_of_ble_eq_true rfl) (by kernel_rfl) rfl)
    Obs.nil))))) ?_
  intro bs w4 aZ haZ F
  have eZ : aZ = ({ tmps := #[(A3 x y z), (PT w.heap.size), (PT (w.heap.size + 1)), (PT g2_5), (PT g3_5), (PT ((bs 3))), undef, undef, undef, undef, undef, (PO w.heap.size 8), (U z), (U 0), (.bool false), (.bool false), (PO w.heap.size 4), (U y), (U 0), (.bool false), (.bool false), undef, (PT w.heap.size), (U x), (PT w.heap.size), (U x), (U m_0), (PO w.heap.size 4), (U y), (PO w.heap.size 4), (U y), (U m_1), (U m_1), (U m_1), (U m_2), undef, undef, undef, undef, undef, undef, undef, undef, undef, undef, undef, undef, undef, undef, undef, undef, undef, undef, undef, undef, undef, undef, undef, undef, undef, undef, undef, undef, undef, undef, undef, undef, undef, undef, undef, undef, undef, undef, undef, undef, undef, undef, undef, undef, undef, undef, undef, undef, undef], defers := [] } : Act) := haZ.trans (by kernel_rfl)
  subst eZ
  clear haZ
  obtain ⟨h3, X3⟩ := F.al 3 rfl rfl
  replace RR : Hid (RB w w4 [((bs 3), (Ar m_2)), (g3_5, (Ar m_1)), (g2_5, (Ar m_0)), (w.heap.size + 1, Z12), (w.heap.size, (T3 x y z))]) := ⟨F.bw, (RowsAt.cons X3 (RowsAt.cons (F.row 3 rfl) (RowsAt.cons (F.row 2 rfl) (RowsAt.cons (F.row 1 rfl) (RowsAt.cons (F.row 0 rfl) RowsAt.nil)))))⟩
  generalize bs 3 = g4_3 at *
  have k4_3_0 := Nat.lt_of_lt_of_le q0 h3
  have k4_3_1 := Nat.lt_of_lt_of_le q1 h3
  have k4_3_2 := Nat.lt_of_lt_of_le q2 h3
  have k4_3_3 := Nat.lt_of_lt_of_le q3 h3
  clear F qT q0 q1 q2 q3 h3 X3
  go_upto_region 6 with fail
  obtain ⟨q4, q3, q2, q1, q0, qT⟩ := RR.out.r.lts
  refine wp_region_told (by kernel_rfl) (by kernel_rfl) (by kernel_rfl) [(w.heap.size, (T3 x y z)), (w.heap.size + 1, Z12), (g2_5, (Ar m_0)), (g3_5, (Ar m_1)), (g4_3, (Ar m_2))]
    [sV (PT w.heap.size),
     sV (U x),
     sV (U m_1),
     sV (U m_3),
     sA (fun g => .pointer (some ⟨g, 0, none⟩)) 5 Zr (Ar m_3),
     sS 4]
    (by kernel_rfl) RR.out.b (RowsAt.cons (RR.out.at 4 rfl) (RowsAt.cons (RR.out.at 3 rfl) (RowsAt.cons (RR.out.at 2 rfl) (RowsAt.cons (RR.out.at 1 rfl) (RowsAt.cons (RR.out.at 0 rfl) RowsAt.nil))))) (StOk.of [] rfl StM.nil)
    (Obs.val (fun a' w' E => ob_fieldAddr 63 (.tmp 1) 0 rfl (E.old 1 (by kernel_rfl)) (fa63_0 _ _ w'))
    (Obs.val (fun a' w' E => ob_loada 24 (.tmp 35) rfl (E.new (v := (PT w.heap.size)) 35 0 (by kernel_rfl) rfl) (E.row (g := w.heap.size) (c := (T3 x y z)) 0 rfl) Tryd.underlying24 rfl (by kernel_rfl) rfl)
    (Obs.val (fun a' w' E => ob_loada 24 (.tmp 4) rfl (E.old 4 (by kernel_rfl)) (E.row (g := g3_5) (c := (Ar m_1)) 3 rfl) Tryd.underlying24 rfl (by kernel_rfl) rfl)
    (Obs.val (fun a' w' E => ob_fcall 36 _ _ rfl (am2 (E.new (v := (U x)) 36 1 (by kernel_rfl) rfl) (E.new (v := (U m_1)) 37 2 (by kernel_rfl) rfl)) (fc36 _ _) (c6.out w'))
    (Obs.alloc (fun a' w' E => ob_alloc (t := 24) (by simp [opAt, execOp, go_sem]))
    (Obs.sta rfl (fun a' w' g E ha hr => ob_storea 24 (.tmp 6) (.tmp 38) rfl (ha 6 (by kernel_rfl)) (E.new (v := (U m_3)) 38 3 (by kernel_rfl) rfl) rfl hr (by kernel_rfl) (Nat.le_of_ble_eq_true rfl) (by kernel_rfl) rfl)
    Obs.nil)))))) ?_
  intro bs w5 aZ haZ F
  have eZ : aZ = ({ tmps := #[(A3 x y z), (PT w.heap.size), (PT (w.heap.size + 1)), (PT g2_5), (PT g3_5), (PT g4_3), (PT ((bs 4))), undef, undef, undef, undef, (PO w.heap.size 8), (U z), (U 0), (.bool false), (.bool false), (PO w.heap.size 4), (U y), (U 0), (.bool false), (.bool false), undef, (PT w.heap.size), (U x), (PT w.heap.size), (U x), (U m_0), (PO w.heap.size 4), (U y), (PO w.heap.size 4), (U y), (U m_1), (U m_1), (U m_1), (U m_2), (PT w.heap.size), (U x), (U m_1), (U m_3), undef, undef, undef, undef, undef, undef, undef, undef, undef, undef, undef, undef, undef, undef, undef, undef, undef, undef, undef, undef, undef, undef, undef, undef, undef, undef, undef, undef, undef, undef, undef, undef, undef, undef, undef, undef, undef, undef, undef, undef, undef, undef, undef, undef, undef], defers := [] } : Act) := haZ.trans (by kernel_rfl)
  subst eZ
  clear haZ
  obtain ⟨h4, X4⟩ := F.al 4 rfl rfl
  replace RR : Hid (RB w w5 [((bs 4), (Ar m_3)), (g4_3, (Ar m_2)), (g3_5, (Ar m_1)), (g2_5, (Ar m_0)), (w.heap.size + 1, Z12), (w.heap.size, (T3 x y z))]) := ⟨F.bw, (RowsAt.cons X4 (RowsAt.cons (F.row 4 rfl) (RowsAt.cons (F.row 3 rfl) (RowsAt.cons (F.row 2 rfl) (RowsAt.cons (F.row 1 rfl) (RowsAt.cons (F.row 0 rfl) RowsAt.nil))))))⟩
  generalize bs 4 = g5_4 at *
  have k5_4_0 := Nat.lt_of_lt_of_le q0 h4
  have k5_4_1 := Nat.lt_of_lt_of_le q1 h4
  have k5_4_2 := Nat.lt_of_lt_of_le q2 h4
  have k5_4_3 := Nat.lt_of_lt_of_le q3 h4
  have k5_4_4 := Nat.lt_of_lt_of_le q4 h4
  clear F qT q0 q1 q2 q3 q4 h4 X4
  go_upto_region 7 with fail
  obtain ⟨q5, q4, q3, q2, q1, q0, qT⟩ := RR.out.r.lts
  refine wp_region_told (by kernel_rfl) (by kernel_rfl) (by kernel_rfl) [(w.heap.size, (T3 x y z)), (w.heap.size + 1, Z12), (g2_5, (Ar m_0)), (g3_5, (Ar m_1)), (g4_3, (Ar m_2))]
    [sV (U m_3),
     sV (U m_3),
     sV (U a_4),
     sK (g5_4) (Ar m_3) (Ar a_4)]
    (by kernel_rfl) RR.out.b (RowsAt.cons (RR.out.at 5 rfl) (RowsAt.cons (RR.out.at 4 rfl) (RowsAt.cons (RR.out.at 3 rfl) (RowsAt.cons (RR.out.at 2 rfl) (RowsAt.cons (RR.out.at 1 rfl) RowsAt.nil))))) (StOk.of [(g5_4, (Ar m_3))] rfl (StM.cons (RR.out.at 0 rfl) (by omega) (Apart.cons (by omega) (Apart.cons (by omega) (Apart.cons (by omega) (Apart.cons (by omega) (Apart.cons (by omega) Apart.nil))))) Apart.nil StM.nil))
    (Obs.val (fun a' w' E => ob_loada 24 (.tmp 6) rfl (E.old 6 (by kernel_rfl)) (E.skb (g := g5_4) (i := (Ar m_3)) (e := (Ar a_4)) 3 rfl (by kernel_rfl)) Tryd.underlying24 rfl (by kernel_rfl) rfl)
    (Obs.val (fun a' w' E => ob_loada 24 (.tmp 6) rfl (E.old 6 (by kernel_rfl)) (E.skb (g := g5_4) (i := (Ar m_3)) (e := (Ar a_4)) 3 rfl (by kernel_rfl)) Tryd.underlying24 rfl (by kernel_rfl) rfl)
    (Obs.val (fun a' w' E => ob_fcall 58 _ _ rfl (am2 (E.new (v := (U m_3)) 39 0 (by kernel_rfl) rfl) (E.new (v := (U m_3)) 40 1 (by kernel_rfl) rfl)) (fc58 _ _) (c7.out w'))
    (Obs.stk (fun a' w' E hr => ob_storea 24 (.tmp 6) (.tmp 41) rfl (E.old 6 (by kernel_rfl)) (E.new (v := (U a_4)) 41 2 (by kernel_rfl) rfl) rfl hr (by kernel_rfl) (Nat.le_of_ble_eq_true rfl) (by kernel_rfl) rfl)
    Obs.nil)))) ?_
  intro bs w6 aZ haZ F
  have eZ : aZ = ({ tmps := #[(A3 x y z), (PT w.heap.size), (PT (w.heap.size + 1)), (PT g2_5), (PT g3_5), (PT g4_3), (PT g5_4), undef, undef, undef, undef, (PO w.heap.size 8), (U z), (U 0), (.bool false), (.bool false), (PO w.heap.size 4), (U y), (U 0), (.bool false), (.bool false), undef, (PT w.heap.size), (U x), (PT w.heap.size), (U x), (U m_0), (PO w.heap.size 4), (U y), (PO w.heap.size 4), (U y), (U m_1), (U m_1), (U m_1), (U m_2), (PT w.heap.size), (U x), (U m_1), (U m_3), (U m_3), (U m_3), (U a_4), undef, undef, undef, undef, undef, undef, undef, undef, undef, undef, undef, undef, undef, undef, undef, undef, undef, undef, undef, undef, undef, undef, undef, undef, undef, undef, undef, undef, undef, undef, undef, undef, undef, undef, undef, undef, undef, undef, undef, undef, undef, undef], defers := [] } : Act) := haZ.trans (by kernel_rfl)
  subst eZ
  clear haZ
  replace RR : Hid (RB w w6 [(g5_4, (Ar a_4)), (g4_3, (Ar m_2)), (g3_5, (Ar m_1)), (g2_5, (Ar m_0)), (w.heap.size + 1, Z12), (w.heap.size, (T3 x y z))]) := ⟨F.bw, (RowsAt.cons (F.sk 3 rfl) (RowsAt.cons (F.row 4 rfl) (RowsAt.cons (F.row 3 rfl) (RowsAt.cons (F.row 2 rfl) (RowsAt.cons (F.row 1 rfl) (RowsAt.cons (F.row 0 rfl) RowsAt.nil))))))⟩
  clear F qT q0 q1 q2 q3 q4 q5
  go_upto_region 8 with fail
  obtain ⟨q5, q4, q3, q2, q1, q0, qT⟩ := RR.out.r.lts
  refine wp_region_told (by kernel_rfl) (by kernel_rfl) (by kernel_rfl) [(w.heap.size, (T3 x y z)), (w.heap.size + 1, Z12), (g2_5, (Ar m_0)), (g3_5, (Ar m_1)), (g4_3, (Ar m_2))]
    [sV (U a_4),
     sV (U a_4),
     sV (U a_5),
     sK (g5_4) (Ar a_4) (Ar a_5)]
    (by kernel_rfl) RR.out.b (RowsAt.cons (RR.out.at 5 rfl) (RowsAt.cons (RR.out.at 4 rfl) (RowsAt.cons (RR.out.at 3 rfl) (RowsAt.cons (RR.out.at 2 rfl) (RowsAt.cons (RR.out.at 1 rfl) RowsAt.nil))))) (StOk.of [(g5_4, (Ar a_4))] rfl (StM.cons (RR.out.at 0 rfl) (by omega) (Apart.cons (by omega) (Apart.cons (by omega) (Apart.cons (by omega) (Apart.cons (by omega) (Apart.cons (by omega) Apart.nil))))) Apart.nil StM.nil))
    (Obs.val (fun a' w' E => ob_loada 24 (.tmp 6) rfl (E.old 6 (by kernel_rfl)) (E.skb (g := g5_4) (i := (Ar a_4)) (e := (Ar a_5)) 3 rfl (by kernel_rfl)) Tryd.underlying24 rfl (by kernel_rfl) rfl)
    (Obs.val (fun a' w' E => ob_loada 24 (.tmp 6) rfl (E.old 6 (by kernel_rfl)) (E.skb (g := g5_4) (i := (Ar a_4)) (e := (Ar a_5)) 3 rfl (by kernel_rfl)) Tryd.underlying24 rfl (by kernel_rfl) rfl)
    (Obs.val (fun a' w' E => ob_fcall 58 _ _ rfl (am2 (E.new (v := (U a_4)) 42 0 (by kernel_rfl) rfl) (E.new (v := (U a_4)) 43 1 (by kernel_rfl) rfl)) (fc58 _ _) (c8.out w'))
    (Obs.stk (fun a' w' E hr => ob_storea 24 (.tmp 6) (.tmp 44) rfl (E.old 6 (by kernel_rfl)) (E.new (v := (U a_5)) 44 2 (by kernel_rfl) rfl) rfl hr (by kernel_rfl) (Nat.le_of_ble_eq_true rfl) (by kernel_rfl) rfl)
    Obs.nil)))) ?_
  intro bs w7 aZ haZ F
  have eZ : aZ = ({ tmps := #[(A3 x y z), (PT w.heap.size), (PT (w.heap.size + 1)), (PT g2_5), (PT g3_5), (PT g4_3), (PT g5_4), undef, undef, undef, undef, (PO w.heap.size 8), (U z), (U 0), (.bool false), (.bool false), (PO w.heap.size 4), (U y), (U 0), (.bool false), (.bool false), undef, (PT w.heap.size), (U x), (PT w.heap.size), (U x), (U m_0), (PO w.heap.size 4), (U y), (PO w.heap.size 4), (U y), (U m_1), (U m_1), (U m_1), (U m_2), (PT w.heap.size), (U x), (U m_1), (U m_3), (U m_3), (U m_3), (U a_4), (U a_4), (U a_4), (U a_5), undef, undef, undef, undef, undef, undef, undef, undef, undef, undef, undef, undef, undef, undef, undef, undef, undef, undef, undef, undef, undef, undef, undef, undef, undef, undef, undef, undef, undef, undef, undef, undef, undef, undef, undef, undef, undef, undef, undef], defers := [] } : Act) := haZ.trans (by kernel_rfl)
  subst eZ
  clear haZ
  replace RR : Hid (RB w w7 [(g5_4, (Ar a_5)), (g4_3, (Ar m_2)), (g3_5, (Ar m_1)), (g2_5, (Ar m_0)), (w.heap.size + 1, Z12), (w.heap.size, (T3 x y z))]) := ⟨F.bw, (RowsAt.cons (F.sk 3 rfl) (RowsAt.cons (F.row 4 rfl) (RowsAt.cons (F.row 3 rfl) (RowsAt.cons (F.row 2 rfl) (RowsAt.cons (F.row 1 rfl) (RowsAt.cons (F.row 0 rfl) RowsAt.nil))))))⟩
  clear F qT q0 q1 q2 q3 q4 q5
  go_upto_region 9 with fail
  obtain ⟨q5, q4, q3, q2, q1, q0, qT⟩ := RR.out.r.lts
  refine wp_region_told (by kernel_rfl) (by kernel_rfl) (by kernel_rfl) [(w.heap.size, (T3 x y z)), (w.heap.size + 1, Z12), (g2_5, (Ar m_0)), (g3_5, (Ar m_1)), (g4_3, (Ar m_2)), (g5_4, (Ar a_5))]
    [sV (U m_0),
     sV (U m_0),
     sV (U a_6),
     sV (U m_0),
     sV (U a_7),
     sA (fun g => .pointer (some ⟨g, 0, none⟩)) 6 Zr (Ar a_7),
     sS 5]
    (by kernel_rfl) RR.out.b (RowsAt.cons (RR.out.at 5 rfl) (RowsAt.cons (RR.out.at 4 rfl) (RowsAt.cons (RR.out.at 3 rfl) (RowsAt.cons (RR.out.at 2 rfl) (RowsAt.cons (RR.out.at 1 rfl) (RowsAt.cons (RR.out.at 0 rfl) RowsAt.nil)))))) (StOk.of [] rfl StM.nil)
    (Obs.val (fun a' w' E => ob_loada 24 (.tmp 3) rfl (E.old 3 (by kernel_rfl)) (E.row (g := g2_5) (c := (Ar m_0)) 2 rfl) Tryd.underlying24 rfl (by kernel_rfl) rfl)
    (Obs.val (fun a' w' E => ob_loada 24 (.tmp 3) rfl (E.old 3 (by kernel_rfl)) (E.row (g := g2_5) (c := (Ar m_0)) 2 rfl) Tryd.underlying24 rfl (by kernel_rfl) rfl)
    (Obs.val (fun a' w' E => ob_fcall 58 _ _ rfl (am2 (E.new (v := (U m_0)) 45 0 (by kernel_rfl) rfl) (E.new (v := (U m_0)) 46 1 (by kernel_rfl) rfl)) (fc58 _ _) (c9.out w'))
    (Obs.val (fun a' w' E => ob_loada 24 (.tmp 3) rfl (E.old 3 (by kernel_rfl)) (E.row (g := g2_5) (c := (Ar m_0)) 2 rfl) Tryd.underlying24 rfl (by kernel_rfl) rfl)
    (Obs.val (fun a' w' E => ob_fcall 58 _ _ rfl (am2 (E.new (v := (U a_6)) 47 2 (by kernel_rfl) rfl) (E.new (v := (U m_0)) 48 3 (by kernel_rfl) rfl)) (fc58 _ _) (c10.out w'))
    (Obs.alloc (fun a' w' E => ob_alloc (t := 24) (by simp [opAt, execOp, go_sem]))
    (Obs.sta rfl (fun a' w' g E ha hr => ob_storea 24 (.tmp 7) (.tmp 49) rfl (ha 7 (by kernel_rfl)) (E.new (v := (U a_7)) 49 4 (by kernel_rfl) rfl) rfl hr (by kernel_rfl) (Nat.le_of_ble_eq_true rfl) (by kernel_rfl) rfl)
    Obs.nil))))))) ?_
  intro bs w8 aZ haZ F
  have eZ : aZ = ({ tmps := #[(A3 x y z), (PT w.heap.size), (PT (w.heap.size + 1)), (PT g2_5), (PT g3_5), (PT g4_3), (PT g5_4), (PT ((bs 5))), undef, undef, undef, (PO w.heap.size 8), (U z), (U 0), (.bool false), (.bool false), (PO w.heap.size 4), (U y), (U 0), (.bool false), (.bool false), undef, (PT w.heap.size), (U x), (PT w.heap.size), (U x), (U m_0), (PO w.heap.size 4), (U y), (PO w.heap.size 4), (U y), (U m_1), (U m_1), (U m_1), (U m_2), (PT w.heap.size), (U x), (U m_1), (U m_3), (U m_3), (U m_3), (U a_4), (U a_4), (U a_4), (U a_5), (U m_0), (U m_0), (U a_6), (U m_0), (U a_7), undef, undef, undef, undef, undef, undef, undef, undef, undef, undef, undef, undef, undef, undef, undef, undef, undef, undef, undef, undef, undef, undef, undef, undef, undef, undef, undef, undef, undef, undef, undef, undef, undef, undef], defers := [] } : Act) := haZ.trans (by kernel_rfl)
  subst eZ
  clear haZ
  obtain ⟨h5, X5⟩ := F.al 5 rfl rfl
  replace RR : Hid (RB w w8 [((bs 5), (Ar a_7)), (g5_4, (Ar a_5)), (g4_3, (Ar m_2)), (g3_5, (Ar m_1)), (g2_5, (Ar m_0)), (w.heap.size + 1, Z12), (w.heap.size, (T3 x y z))]) := ⟨F.bw, (RowsAt.cons X5 (RowsAt.cons (F.row 5 rfl) (RowsAt.cons (F.row 4 rfl) (RowsAt.cons (F.row 3 rfl) (RowsAt.cons (F.row 2 rfl) (RowsAt.cons (F.row 1 rfl) (RowsAt.cons (F.row 0 rfl) RowsAt.nil)))))))⟩
  generalize bs 5 = g8_5 at *
  have k8_5_0 := Nat.lt_of_lt_of_le q0 h5
  have k8_5_1 := Nat.lt_of_lt_of_le q1 h5
  have k8_5_2 := Nat.lt_of_lt_of_le q2 h5
  have k8_5_3 := Nat.lt_of_lt_of_le q3 h5
  have k8_5_4 := Nat.lt_of_lt_of_le q4 h5
  have k8_5_5 := Nat.lt_of_lt_of_le q5 h5
  clear F qT q0 q1 q2 q3 q4 q5 h5 X5
  go_upto_region 10 with fail
  obtain ⟨q6, q5, q4, q3, q2, q1, q0, qT⟩ := RR.out.r.lts
  refine wp_region_told (by kernel_rfl) (by kernel_rfl) (by kernel_rfl) [(w.heap.size, (T3 x y z)), (w.heap.size + 1, Z12), (g2_5, (Ar m_0)), (g3_5, (Ar m_1)), (g4_3, (Ar m_2)), (g5_4, (Ar a_5)), (g8_5, (Ar a_7))]
    [sV (U a_7),
     sV (U a_7),
     sV (U m_8),
     sV (U a_5),
     sV (U a_5),
     sV (U a_9),
     sV (U d_10),
     sA (fun g => .pointer (some ⟨g, 0, none⟩)) 8 Zr (Ar d_10),
     sS 7]
    (by kernel_rfl) RR.out.b (RowsAt.cons (RR.out.at 6 rfl) (RowsAt.cons (RR.out.at 5 rfl) (RowsAt.cons (RR.out.at 4 rfl) (RowsAt.cons (RR.out.at 3 rfl) (RowsAt.cons (RR.out.at 2 rfl) (RowsAt.cons (RR.out.at 1 rfl) (RowsAt.cons (RR.out.at 0 rfl) RowsAt.nil))))))) (StOk.of [] rfl StM.nil)
    (Obs.val (fun a' w' E => ob_loada 24 (.tmp 7) rfl (E.old 7 (by kernel_rfl)) (E.row (g := g8_5) (c := (Ar a_7)) 6 rfl) Tryd.underlying24 rfl (by kernel_rfl) rfl)
    (Obs.val (fun a' w' E => ob_loada 24 (.tmp 7) rfl (E.old 7 (by kernel_rfl)) (E.row (g := g8_5) (c := (Ar a_7)) 6 rfl) Tryd.underlying24 rfl (by kernel_rfl) rfl)
    (Obs.val (fun a' w' E => ob_fcall 36 _ _ rfl (am2 (E.new (v := (U a_7)) 50 0 (by kernel_rfl) rfl) (E.new (v := (U a_7)) 51 1 (by kernel_rfl) rfl)) (fc36 _ _) (c11.out w'))
    (Obs.val (fun a' w' E => ob_loada 24 (.tmp 6) rfl (E.old 6 (by kernel_rfl)) (E.row (g := g5_4) (c := (Ar a_5)) 5 rfl) Tryd.underlying24 rfl (by kernel_rfl) rfl)
    (Obs.val (fun a' w' E => ob_loada 24 (.tmp 6) rfl (E.old 6 (by kernel_rfl)) (E.row (g := g5_4) (c := (Ar a_5)) 5 rfl) Tryd.underlying24 rfl (by kernel_rfl) rfl)
    (Obs.val (fun a' w' E => ob_fcall 58 _ _ rfl (am2 (E.new (v := (U a_5)) 53 3 (by kernel_rfl) rfl) (E.new (v := (U a_5)) 54 4 (by kernel_rfl) rfl)) (fc58 _ _) (c12.out w'))
    (Obs.val (fun a' w' E => ob_fcall 43 _ _ rfl (am2 (E.new (v := (U m_8)) 52 2 (by kernel_rfl) rfl) (E.new (v := (U a_9)) 55 5 (by kernel_rfl) rfl)) (fc43 _ _) (c13.out w'))
    (Obs.alloc (fun a' w' E => ob_alloc (t := 24) (by simp [opAt, execOp, go_sem]))
    (Obs.sta rfl (fun a' w' g E ha hr => ob_storea 24 (.tmp 8) (.tmp 56) rfl (ha 8 (by kernel_rfl)) (E.new (v := (U d_10)) 56 6 (by kernel_rfl) rfl) rfl hr (by kernel_rfl) (Nat.le_of_ble_eq_true rfl) (by kernel_rfl) rfl)
    Obs.nil))))))))) ?_
  intro bs w9 aZ haZ F
  have eZ : aZ = ({ tmps := #[(A3 x y z), (PT w.heap.size), (PT (w.heap.size + 1)), (PT g2_5), (PT g3_5), (PT g4_3), (PT g5_4), (PT g8_5), (PT ((bs 7))), undef, undef, (PO w.heap.size 8), (U z), (U 0), (.bool false), (.bool false), (PO w.heap.size 4), (U y), (U 0), (.bool false), (.bool false), undef, (PT w.heap.size), (U x), (PT w.heap.size), (U x), (U m_0), (PO w.heap.size 4), (U y), (PO w.heap.size 4), (U y), (U m_1), (U m_1), (U m_1), (U m_2), (PT w.heap.size), (U x), (U m_1), (U m_3), (U m_3), (U m_3), (U a_4), (U a_4), (U a_4), (U a_5), (U m_0), (U m_0), (U a_6), (U m_0), (U a_7), (U a_7), (U a_7), (U m_8), (U a_5), (U a_5), (U a_9), (U d_10), undef, undef, undef, undef, undef, undef, undef, undef, undef, undef, undef, undef, undef, undef, undef, undef, undef, undef, undef, undef, undef, undef, undef, undef, undef, undef, undef], defers := [] } : Act) := haZ.trans (by kernel_rfl)
  subst eZ
  clear haZ
  obtain ⟨h7, X7⟩ := F.al 7 rfl rfl
  replace RR : Hid (RB w w9 [((bs 7), (Ar d_10)), (g8_5, (Ar a_7)), (g5_4, (Ar a_5)), (g4_3, (Ar m_2)), (g3_5, (Ar m_1)), (g2_5, (Ar m_0)), (w.heap.size + 1, Z12), (w.heap.size, (T3 x y z))]) := ⟨F.bw, (RowsAt.cons X7 (RowsAt.cons (F.row 6 rfl) (RowsAt.cons (F.row 5 rfl) (RowsAt.cons (F.row 4 rfl) (RowsAt.cons (F.row 3 rfl) (RowsAt.cons (F.row 2 rfl) (RowsAt.cons (F.row 1 rfl) (RowsAt.cons (F.row 0 rfl) RowsAt.nil))))))))⟩
  generalize bs 7 = g9_7 at *
  have k9_7_0 := Nat.lt_of_lt_of_le q0 h7
  have k9_7_1 := Nat.lt_of_lt_of_le q1 h7
  have k9_7_2 := Nat.lt_of_lt_of_le q2 h7
  have k9_7_3 := Nat.lt_of_lt_of_le q3 h7
  have k9_7_4 := Nat.lt_of_lt_of_le q4 h7
  have k9_7_5 := Nat.lt_of_lt_of_le q5 h7
  have k9_7_6 := Nat.lt_of_lt_of_le q6 h7
  clear F qT q0 q1 q2 q3 q4 q5 q6 h7 X7
  go_upto_region 11 with fail
  obtain ⟨q7, q6, q5, q4, q3, q2, q1, q0, qT⟩ := RR.out.r.lts
  refine wp_region_told (by kernel_rfl) (by kernel_rfl) (by kernel_rfl) [(w.heap.size, (T3 x y z)), (w.heap.size + 1, Z12), (g2_5, (Ar m_0)), (g3_5, (Ar m_1)), (g5_4, (Ar a_5)), (g8_5, (Ar a_7)), (g9_7, (Ar d_10))]
    [sV (U m_2),
     sV (U m_2),
     sV (U a_11),
     sK (g4_3) (Ar m_2) (Ar a_11)]
    (by kernel_rfl) RR.out.b (RowsAt.cons (RR.out.at 7 rfl) (RowsAt.cons (RR.out.at 6 rfl) (RowsAt.cons (RR.out.at 5 rfl) (RowsAt.cons (RR.out.at 4 rfl) (RowsAt.cons (RR.out.at 2 rfl) (RowsAt.cons (RR.out.at 1 rfl) (RowsAt.cons (RR.out.at 0 rfl) RowsAt.nil))))))) (StOk.of [(g4_3, (Ar m_2))] rfl (StM.cons (RR.out.at 3 rfl) (by omega) (Apart.cons (by omega) (Apart.cons (by omega) (Apart.cons (by omega) (Apart.cons (by omega) (Apart.cons (by omega) (Apart.cons (by omega) (Apart.cons (by omega) Apart.nil))))))) Apart.nil StM.nil))
    (Obs.val (fun a' w' E => ob_loada 24 (.tmp 5) rfl (E.old 5 (by kernel_rfl)) (E.skb (g := g4_3) (i := (Ar m_2)) (e := (Ar a_11)) 3 rfl (by kernel_rfl)) Tryd.underlying24 rfl (by kernel_rfl) rfl)
    (Obs.val (fun a' w' E => ob_loada 24 (.tmp 5) rfl (E.old 5 (by kernel_rfl)) (E.skb (g := g4_3) (i := (Ar m_2)) (e := (Ar a_11)) 3 rfl (by kernel_rfl)) Tryd.underlying24 rfl (by kernel_rfl) rfl)
    (Obs.val (fun a' w' E => ob_fcall 58 _ _ rfl (am2 (E.new (v := (U m_2)) 57 0 (by kernel_rfl) rfl) (E.new (v := (U m_2)) 58 1 (by kernel_rfl) rfl)) (fc58 _ _) (c14.out w'))
    (Obs.stk (fun a' w' E hr => ob_storea 24 (.tmp 5) (.tmp 59) rfl (E.old 5 (by kernel_rfl)) (E.new (v := (U a_11)) 59 2 (by kernel_rfl) rfl) rfl hr (by kernel_rfl) (Nat.le_of_ble_eq_true rfl) (by kernel_rfl) rfl)
    Obs.nil)))) ?_
  intro bs w10 aZ haZ F
  have eZ : aZ = ({ tmps := #[(A3 x y z), (PT w.heap.size), (PT (w.heap.size + 1)), (PT g2_5), (PT g3_5), (PT g4_3), (PT g5_4), (PT g8_5), (PT g9_7), undef, undef, (PO w.heap.size 8), (U z), (U 0), (.bool false), (.bool false), (PO w.heap.size 4), (U y), (U 0), (.bool false), (.bool false), undef, (PT w.heap.size), (U x), (PT w.heap.size), (U x), (U m_0), (PO w.heap.size 4), (U y), (PO w.heap.size 4), (U y), (U m_1), (U m_1), (U m_1), (U m_2), (PT w.heap.size), (U x), (U m_1), (U m_3), (U m_3), (U m_3), (U a_4), (U a_4), (U a_4), (U a_5), (U m_0), (U m_0), (U a_6), (U m_0), (U a_7), (U a_7), (U a_7), (U m_8), (U a_5), (U a_5), (U a_9), (U d_10), (U m_2), (U m_2), (U a_11), undef, undef, undef, undef, undef, undef, undef, undef, undef, undef, undef, undef, undef, undef, undef, undef, undef, undef, undef, undef, undef, undef, undef, undef], defers := [] } : Act) := haZ.trans (by kernel_rfl)
  subst eZ
  clear haZ
  replace RR : Hid (RB w w10 [(g9_7, (Ar d_10)), (g8_5, (Ar a_7)), (g5_4, (Ar a_5)), (g4_3, (Ar a_11)), (g3_5, (Ar m_1)), (g2_5, (Ar m_0)), (w.heap.size + 1, Z12), (w.heap.size, (T3 x y z))]) := ⟨F.bw, (RowsAt.cons (F.row 6 rfl) (RowsAt.cons (F.row 5 rfl) (RowsAt.cons (F.row 4 rfl) (RowsAt.cons (F.sk 3 rfl) (RowsAt.cons (F.row 3 rfl) (RowsAt.cons (F.row 2 rfl) (RowsAt.cons (F.row 1 rfl) (RowsAt.cons (F.row 0 rfl) RowsAt.nil))))))))⟩
  clear F qT q0 q1 q2 q3 q4 q5 q6 q7
  go_upto_region 12 with fail
  obtain ⟨q7, q6, q5, q4, q3, q2, q1, q0, qT⟩ := RR.out.r.lts
  refine wp_region_told (by kernel_rfl) (by kernel_rfl) (by kernel_rfl) [(w.heap.size, (T3 x y z)), (w.heap.size + 1, Z12), (g2_5, (Ar m_0)), (g3_5, (Ar m_1)), (g5_4, (Ar a_5)), (g8_5, (Ar a_7)), (g9_7, (Ar d_10))]
    [sV (U a_11),
     sV (U a_11),
     sV (U a_12),
     sK (g4_3) (Ar a_11) (Ar a_12)]
    (by kernel_rfl) RR.out.b (RowsAt.cons (RR.out.at 7 rfl) (RowsAt.cons (RR.out.at 6 rfl) (RowsAt.cons (RR.out.at 5 rfl) (RowsAt.cons (RR.out.at 4 rfl) (RowsAt.cons (RR.out.at 2 rfl) (RowsAt.cons (RR.out.at 1 rfl) (RowsAt.cons (RR.out.at 0 rfl) RowsAt.nil))))))) (StOk.of [(g4_3, (Ar a_11))] rfl (StM.cons (RR.out.at 3 rfl) (by omega) (Apart.cons (by omega) (Apart.cons (by omega) (Apart.cons (by omega) (Apart.cons (by omega) (Apart.cons (by omega) (Apart.cons (by omega) (Apart.cons (by omega) Apart.nil))))))) Apart.nil StM.nil))
    (Obs.val (fun a' w' E => ob_loada 24 (.tmp 5) rfl (E.old 5 (by kernel_rfl)) (E.skb (g := g4_3) (i := (Ar a_11)) (e := (Ar a_12)) 3 rfl (by kernel_rfl)) Tryd.underlying24 rfl (by kernel_rfl) rfl)
    (Obs.val (fun a' w' E => ob_loada 24 (.tmp 5) rfl (E.old 5 (by kernel_rfl)) (E.skb (g := g4_3) (i := (Ar a_11)) (e := (Ar a_12)) 3 rfl (by kernel_rfl)) Tryd.underlying24 rfl (by kernel_rfl) rfl)
    (Obs.val (fun a' w' E => ob_fcall 58 _ _ rfl (am2 (E.new (v := (U a_11)) 60 0 (by kernel_rfl) rfl) (E.new (v := (U a_11)) 61 1 (by kernel_rfl) rfl)) (fc58 _ _) (c15.out w'))
    (Obs.stk (fun a' w' E hr => ob_storea 24 (.tmp 5) (.tmp 62) rfl (E.old 5 (by kernel_rfl)) (E.new (v := (U a_12)) 62 2 (by kernel_rfl) rfl) rfl hr (by kernel_rfl) (Nat.le_of_ble_eq_true rfl) (by kernel_rfl) rfl)
    Obs.nil)))) ?_
  intro bs w11 aZ haZ F
  have eZ : aZ = ({ tmps := #[(A3 x y z), (PT w.heap.size), (PT (w.heap.size + 1)), (PT g2_5), (PT g3_5), (PT g4_3), (PT g5_4), (PT g8_5), (PT g9_7), undef, undef, (PO w.heap.size 8), (U z), (U 0), (.bool false), (.bool false), (PO w.heap.size 4), (U y), (U 0), (.bool false), (.bool false), undef, (PT w.heap.size), (U x), (PT w.heap.size), (U x), (U m_0), (PO w.heap.size 4), (U y), (PO w.heap.size 4), (U y), (U m_1), (U m_1), (U m_1), (U m_2), (PT w.heap.size), (U x), (U m_1), (U m_3), (U m_3), (U m_3), (U a_4), (U a_4), (U a_4), (U a_5), (U m_0), (U m_0), (U a_6), (U m_0), (U a_7), (U a_7), (U a_7), (U m_8), (U a_5), (U a_5), (U a_9), (U d_10), (U m_2), (U m_2), (U a_11), (U a_11), (U a_11), (U a_12), undef, undef, undef, undef, undef, undef, undef, undef, undef, undef, undef, undef, undef, undef, undef, undef, undef, undef, undef, undef, undef], defers := [] } : Act) := haZ.trans (by kernel_rfl)
  subst eZ
  clear haZ
  replace RR : Hid (RB w w11 [(g9_7, (Ar d_10)), (g8_5, (Ar a_7)), (g5_4, (Ar a_5)), (g4_3, (Ar a_12)), (g3_5, (Ar m_1)), (g2_5, (Ar m_0)), (w.heap.size + 1, Z12), (w.heap.size, (T3 x y z))]) := ⟨F.bw, (RowsAt.cons (F.row 6 rfl) (RowsAt.cons (F.row 5 rfl) (RowsAt.cons (F.row 4 rfl) (RowsAt.cons (F.sk 3 rfl) (RowsAt.cons (F.row 3 rfl) (RowsAt.cons (F.row 2 rfl) (RowsAt.cons (F.row 1 rfl) (RowsAt.cons (F.row 0 rfl) RowsAt.nil))))))))⟩
  clear F qT q0 q1 q2 q3 q4 q5 q6 q7
  go_upto_region 13 with fail
  obtain ⟨q7, q6, q5, q4, q3, q2, q1, q0, qT⟩ := RR.out.r.lts
  refine wp_region_told (by kernel_rfl) (by kernel_rfl) (by kernel_rfl) [(w.heap.size, (T3 x y z)), (w.heap.size + 1, Z12), (g2_5, (Ar m_0)), (g3_5, (Ar m_1)), (g5_4, (Ar a_5)), (g8_5, (Ar a_7)), (g9_7, (Ar d_10))]
    [sV (U a_12),
     sV (U a_12),
     sV (U a_13),
     sK (g4_3) (Ar a_12) (Ar a_13)]
    (by kernel_rfl) RR.out.b (RowsAt.cons (RR.out.at 7 rfl) (RowsAt.cons (RR.out.at 6 rfl) (RowsAt.cons (RR.out.at 5 rfl) (RowsAt.cons (RR.out.at 4 rfl) (RowsAt.cons (RR.out.at 2 rfl) (RowsAt.cons (RR.out.at 1 rfl) (RowsAt.cons (RR.out.at 0 rfl) RowsAt.nil))))))) (StOk.of [(g4_3, (Ar a_12))] rfl (StM.cons (RR.out.at 3 rfl) (by omega) (Apart.cons (by omega) (Apart.cons (by omega) (Apart.cons (by omega) (Apart.cons (by omega) (Apart.cons (by omega) (Apart.cons (by omega) (Apart.cons (by omega) Apart.nil))))))) Apart.nil StM.nil))
    (Obs.val (fun a' w' E => ob_loada 24 (.tmp 5) rfl (E.old 5 (by kernel_rfl)) (E.skb (g := g4_3) (i := (Ar a_12)) (e := (Ar a_13)) 3 rfl (by kernel_rfl)) Tryd.underlying24 rfl (by kernel_rfl) rfl)
    (Obs.val (fun a' w' E => ob_loada 24 (.tmp 5) rfl (E.old 5 (by kernel_rfl)) (E.skb (g := g4_3) (i := (Ar a_12)) (e := (Ar a_13)) 3 rfl (by kernel_rfl)) Tryd.underlying24 rfl (by kernel_rfl) rfl)
    (Obs.val (fun a' w' E => ob_fcall 58 _ _ rfl (am2 (E.new (v := (U a_12)) 63 0 (by kernel_rfl) rfl) (E.new (v := (U a_12)) 64 1 (by kernel_rfl) rfl)) (fc58 _ _) (c16.out w'))
    (Obs.stk (fun a' w' E hr => ob_storea 24 (.tmp 5) (.tmp 65) rfl (E.old 5 (by kernel_rfl)) (E.new (v := (U a_13)) 65 2 (by kernel_rfl) rfl) rfl hr (by kernel_rfl) (Nat.le_of_ble_eq_true rfl) (by kernel_rfl) rfl)
    Obs.nil)))) ?_
  intro bs w12 aZ haZ F
  have eZ : aZ = ({ tmps := #[(A3 x y z), (PT w.heap.size), (PT (w.heap.size + 1)), (PT g2_5), (PT g3_5), (PT g4_3), (PT g5_4), (PT g8_5), (PT g9_7), undef, undef, (PO w.heap.size 8), (U z), (U 0), (.bool false), (.bool false), (PO w.heap.size 4), (U y), (U 0), (.bool false), (.bool false), undef, (PT w.heap.size), (U x), (PT w.heap.size), (U x), (U m_0), (PO w.heap.size 4), (U y), (PO w.heap.size 4), (U y), (U m_1), (U m_1), (U m_1), (U m_2), (PT w.heap.size), (U x), (U m_1), (U m_3), (U m_3), (U m_3), (U a_4), (U a_4), (U a_4), (U a_5), (U m_0), (U m_0), (U a_6), (U m_0), (U a_7), (U a_7), (U a_7), (U m_8), (U a_5), (U a_5), (U a_9), (U d_10), (U m_2), (U m_2), (U a_11), (U a_11), (U a_11), (U a_12), (U a_12), (U a_12), (U a_13), undef, undef, undef, undef, undef, undef, undef, undef, undef, undef, undef, undef, undef, undef, undef, undef, undef, undef], defers := [] } : Act) := haZ.trans (by kernel_rfl)
  subst eZ
  clear haZ
  replace RR : Hid (RB w w12 [(g9_7, (Ar d_10)), (g8_5, (Ar a_7)), (g5_4, (Ar a_5)), (g4_3, (Ar a_13)), (g3_5, (Ar m_1)), (g2_5, (Ar m_0)), (w.heap.size + 1, Z12), (w.heap.size, (T3 x y z))]) := ⟨F.bw, (RowsAt.cons (F.row 6 rfl) (RowsAt.cons (F.row 5 rfl) (RowsAt.cons (F.row 4 rfl) (RowsAt.cons (F.sk 3 rfl) (RowsAt.cons (F.row 3 rfl) (RowsAt.cons (F.row 2 rfl) (RowsAt.cons (F.row 1 rfl) (RowsAt.cons (F.row 0 rfl) RowsAt.nil))))))))⟩
  clear F qT q0 q1 q2 q3 q4 q5 q6 q7
  go_upto_region 14 with fail
  obtain ⟨q7, q6, q5, q4, q3, q2, q1, q0, qT⟩ := RR.out.r.lts
  refine wp_region_told (by kernel_rfl) (by kernel_rfl) (by kernel_rfl) [(w.heap.size, (T3 x y z)), (w.heap.size + 1, Z12), (g2_5, (Ar m_0)), (g3_5, (Ar m_1)), (g4_3, (Ar a_13)), (g5_4, (Ar a_5)), (g8_5, (Ar a_7)), (g9_7, (Ar d_10))]
    [sV (U a_7),
     sV (U a_5),
     sV (U d_10),
     sV (U d_14),
     sV (U m_15),
     sV (U a_13),
     sV (U d_16),
     sA (fun g => .pointer (some ⟨g, 0, none⟩)) 8 Zr (Ar d_16),
     sS 7]
    (by kernel_rfl) RR.out.b (RowsAt.cons (RR.out.at 7 rfl) (RowsAt.cons (RR.out.at 6 rfl) (RowsAt.cons (RR.out.at 5 rfl) (RowsAt.cons (RR.out.at 4 rfl) (RowsAt.cons (RR.out.at 3 rfl) (RowsAt.cons (RR.out.at 2 rfl) (RowsAt.cons (RR.out.at 1 rfl) (RowsAt.cons (RR.out.at 0 rfl) RowsAt.nil)))))))) (StOk.of [] rfl StM.nil)
    (Obs.val (fun a' w' E => ob_loada 24 (.tmp 7) rfl (E.old 7 (by kernel_rfl)) (E.row (g := g8_5) (c := (Ar a_7)) 6 rfl) Tryd.underlying24 rfl (by kernel_rfl) rfl)
    (Obs.val (fun a' w' E => ob_loada 24 (.tmp 6) rfl (E.old 6 (by kernel_rfl)) (E.row (g := g5_4) (c := (Ar a_5)) 5 rfl) Tryd.underlying24 rfl (by kernel_rfl) rfl)
    (Obs.val (fun a' w' E => ob_loada 24 (.tmp 8) rfl (E.old 8 (by kernel_rfl)) (E.row (g := g9_7) (c := (Ar d_10)) 7 rfl) Tryd.underlying24 rfl (by kernel_rfl) rfl)
    (Obs.val (fun a' w' E => ob_fcall 43 _ _ rfl (am2 (E.new (v := (U a_5)) 67 1 (by kernel_rfl) rfl) (E.new (v := (U d_10)) 68 2 (by kernel_rfl) rfl)) (fc43 _ _) (c17.out w'))
    (Obs.val (fun a' w' E => ob_fcall 36 _ _ rfl (am2 (E.new (v := (U a_7)) 66 0 (by kernel_rfl) rfl) (E.new (v := (U d_14)) 69 3 (by kernel_rfl) rfl)) (fc36 _ _) (c18.out w'))
    (Obs.val (fun a' w' E => ob_loada 24 (.tmp 5) rfl (E.old 5 (by kernel_rfl)) (E.row (g := g4_3) (c := (Ar a_13)) 4 rfl) Tryd.underlying24 rfl (by kernel_rfl) rfl)
    (Obs.val (fun a' w' E => ob_fcall 43 _ _ rfl (am2 (E.new (v := (U m_15)) 70 4 (by kernel_rfl) rfl) (E.new (v := (U a_13)) 71 5 (by kernel_rfl) rfl)) (fc43 _ _) (c19.out w'))
    (Obs.alloc (fun a' w' E => ob_alloc (t := 24) (by simp [opAt, execOp, go_sem]))
    (Obs.sta rfl (fun a' w' g E ha hr => ob_storea 24 (.tmp 9) (.tmp 72) rfl (ha 9 (by kernel_rfl)) (E.new (v := (U d_16)) 72 6 (by kernel_rfl) rfl) rfl hr (by kernel_rfl) (Nat.le_of_ble_eq_true rfl) (by kernel_rfl) rfl)
    Obs.nil))))))))) ?_
  intro bs w13 aZ haZ F
  have eZ : aZ = ({ tmps := #[(A3 x y z), (PT w.heap.size), (PT (w.heap.size + 1)), (PT g2_5), (PT g3_5), (PT g4_3), (PT g5_4), (PT g8_5), (PT g9_7), (PT ((bs 7))), undef, (PO w.heap.size 8), (U z), (U 0), (.bool false), (.bool false), (PO w.heap.size 4), (U y), (U 0), (.bool false), (.bool false), undef, (PT w.heap.size), (U x), (PT w.heap.size), (U x), (U m_0), (PO w.heap.size 4), (U y), (PO w.heap.size 4), (U y), (U m_1), (U m_1), (U m_1), (U m_2), (PT w.heap.size), (U x), (U m_1), (U m_3), (U m_3), (U m_3), (U a_4), (U a_4), (U a_4), (U a_5), (U m_0), (U m_0), (U a_6), (U m_0), (U a_7), (U a_7), (U a_7), (U m_8), (U a_5), (U a_5), (U a_9), (U d_10), (U m_2), (U m_2), (U a_11), (U a_11), (U a_11), (U a_12), (U a_12), (U a_12), (U a_13), (U a_7), (U a_5), (U d_10), (U d_14), (U m_15), (U a_13), (U d_16), undef, undef, undef, undef, undef, undef, undef, undef, undef, undef, undef], defers := [] } : Act) := haZ.trans (by kernel_rfl)
  subst eZ
  clear haZ
  obtain ⟨h7, X7⟩ := F.al 7 rfl rfl
  replace RR : Hid (RB w w13 [((bs 7), (Ar d_16)), (g9_7, (Ar d_10)), (g8_5, (Ar a_7)), (g5_4, (Ar a_5)), (g4_3, (Ar a_13)), (g3_5, (Ar m_1)), (g2_5, (Ar m_0)), (w.heap.size + 1, Z12), (w.heap.size, (T3 x y z))]) := ⟨F.bw, (RowsAt.cons X7 (RowsAt.cons (F.row 7 rfl) (RowsAt.cons (F.row 6 rfl) (RowsAt.cons (F.row 5 rfl) (RowsAt.cons (F.row 4 rfl) (RowsAt.cons (F.row 3 rfl) (RowsAt.cons (F.row 2 rfl) (RowsAt.cons (F.row 1 rfl) (RowsAt.cons (F.row 0 rfl) RowsAt.nil)))))))))⟩
  generalize bs 7 = g13_7 at *
  have k13_7_0 := Nat.lt_of_lt_of_le q0 h7
  have k13_7_1 := Nat.lt_of_lt_of_le q1 h7
  have k13_7_2 := Nat.lt_of_lt_of_le q2 h7
  have k13_7_3 := Nat.lt_of_lt_of_le q3 h7
  have k13_7_4 := Nat.lt_of_lt_of_le q4 h7
  have k13_7_5 := Nat.lt_of_lt_of_le q5 h7
  have k13_7_6 := Nat.lt_of_lt_of_le q6 h7
  have k13_7_7 := Nat.lt_of_lt_of_le q7 h7
  clear F qT q0 q1 q2 q3 q4 q5 q6 q7 h7 X7
  go_upto_region 15 with fail
  obtain ⟨q8, q7, q6, q5, q4, q3, q2, q1, q0, qT⟩ := RR.out.r.lts
  refine wp_region_told (by kernel_rfl) (by kernel_rfl) (by kernel_rfl) [(w.heap.size, (T3 x y z)), (w.heap.size + 1, Z12), (g2_5, (Ar m_0)), (g3_5, (Ar m_1)), (g4_3, (Ar a_13)), (g5_4, (Ar a_5)), (g8_5, (Ar a_7)), (g9_7, (Ar d_10)), (g13_7, (Ar d_16))]
    [sV (PO w.heap.size 4),
     sV (U y),
     sV (PO w.heap.size 8),
     sV (U z),
     sV (U m_17),
     sA (fun g => .pointer (some ⟨g, 0, none⟩)) 6 Zr (Ar m_17),
     sS 5]
    (by kernel_rfl) RR.out.b (RowsAt.cons (RR.out.at 8 rfl) (RowsAt.cons (RR.out.at 7 rfl) (RowsAt.cons (RR.out.at 6 rfl) (RowsAt.cons (RR.out.at 5 rfl) (RowsAt.cons (RR.out.at 4 rfl) (RowsAt.cons (RR.out.at 3 rfl) (RowsAt.cons (RR.out.at 2 rfl) (RowsAt.cons (RR.out.at 1 rfl) (RowsAt.cons (RR.out.at 0 rfl) RowsAt.nil))))))))) (StOk.of [] rfl StM.nil)
    (Obs.val (fun a' w' E => ob_fieldAddr 63 (.tmp 1) 1 rfl (E.old 1 (by kernel_rfl)) (fa63_1 _ _ w'))
    (Obs.val (fun a' w' E => ob_loada 24 (.tmp 73) rfl (E.new (v := (PO w.heap.size 4)) 73 0 (by kernel_rfl) rfl) (E.row (g := w.heap.size) (c := (T3 x y z)) 0 rfl) Tryd.underlying24 rfl (by kernel_rfl) rfl)
    (Obs.val (fun a' w' E => ob_fieldAddr 63 (.tmp 1) 2 rfl (E.old 1 (by kernel_rfl)) (fa63_2 _ _ w'))
    (Obs.val (fun a' w' E => ob_loada 24 (.tmp 75) rfl (E.new (v := (PO w.heap.size 8)) 75 2 (by kernel_rfl) rfl) (E.row (g := w.heap.size) (c := (T3 x y z)) 0 rfl) Tryd.underlying24 rfl (by kernel_rfl) rfl)
    (Obs.val (fun a' w' E => ob_fcall 36 _ _ rfl (am2 (E.new (v := (U y)) 74 1 (by kernel_rfl) rfl) (E.new (v := (U z)) 76 3 (by kernel_rfl) rfl)) (fc36 _ _) (c20.out w'))
    (Obs.alloc (fun a' w' E => ob_alloc (t := 24) (by simp [opAt, execOp, go_sem]))
    (Obs.sta rfl (fun a' w' g E ha hr => ob_storea 24 (.tmp 10) (.tmp 77) rfl (ha 10 (by kernel_rfl)) (E.new (v := (U m_17)) 77 4 (by kernel_rfl) rfl) rfl hr (by kernel_rfl) (Nat.le_of_ble_eq_true rfl) (by kernel_rfl) rfl)
    Obs.nil))))))) ?_
  intro bs w14 aZ haZ F
  have eZ : aZ = ({ tmps := #[(A3 x y z), (PT w.heap.size), (PT (w.heap.size + 1)), (PT g2_5), (PT g3_5), (PT g4_3), (PT g5_4), (PT g8_5), (PT g9_7), (PT g13_7), (PT ((bs 5))), (PO w.heap.size 8), (U z), (U 0), (.bool false), (.bool false), (PO w.heap.size 4), (U y), (U 0), (.bool false), (.bool false), undef, (PT w.heap.size), (U x), (PT w.heap.size), (U x), (U m_0), (PO w.heap.size 4), (U y), (PO w.heap.size 4), (U y), (U m_1), (U m_1), (U m_1), (U m_2), (PT w.heap.size), (U x), (U m_1), (U m_3), (U m_3), (U m_3), (U a_4), (U a_4), (U a_4), (U a_5), (U m_0), (U m_0), (U a_6), (U m_0), (U a_7), (U a_7), (U a_7), (U m_8), (U a_5), (U a_5), (U a_9), (U d_10), (U m_2), (U m_2), (U a_11), (U a_11), (U a_11), (U a_12), (U a_12), (U a_12), (U a_13), (U a_7), (U a_5), (U d_10), (U d_14), (U m_15), (U a_13), (U d_16), (PO w.heap.size 4), (U y), (PO w.heap.size 8), (U z), (U m_17), undef, undef, undef, undef, undef, undef], defers := [] } : Act) := haZ.trans (by kernel_rfl)
  subst eZ
  clear haZ
  obtain ⟨h5, X5⟩ := F.al 5 rfl rfl
  replace RR : Hid (RB w w14 [((bs 5), (Ar m_17)), (g13_7, (Ar d_16)), (g9_7, (Ar d_10)), (g8_5, (Ar a_7)), (g5_4, (Ar a_5)), (g4_3, (Ar a_13)), (g3_5, (Ar m_1)), (g2_5, (Ar m_0)), (w.heap.size + 1, Z12), (w.heap.size, (T3 x y z))]) := ⟨F.bw, (RowsAt.cons X5 (RowsAt.cons (F.row 8 rfl) (RowsAt.cons (F.row 7 rfl) (RowsAt.cons (F.row 6 rfl) (RowsAt.cons (F.row 5 rfl) (RowsAt.cons (F.row 4 rfl) (RowsAt.cons (F.row 3 rfl) (RowsAt.cons (F.row 2 rfl) (RowsAt.cons (F.row 1 rfl) (RowsAt.cons (F.row 0 rfl) RowsAt.nil))))))))))⟩
  generalize bs 5 = g14_5 at *
  have k14_5_0 := Nat.lt_of_lt_of_le q0 h5
  have k14_5_1 := Nat.lt_of_lt_of_le q1 h5
  have k14_5_2 := Nat.lt_of_lt_of_le q2 h5
  have k14_5_3 := Nat.lt_of_lt_of_le q3 h5
  have k14_5_4 := Nat.lt_of_lt_of_le q4 h5
  have k14_5_5 := Nat.lt_of_lt_of_le q5 h5
  have k14_5_6 := Nat.lt_of_lt_of_le q6 h5
  have k14_5_7 := Nat.lt_of_lt_of_le q7 h5
  have k14_5_8 := Nat.lt_of_lt_of_le q8 h5
  clear F qT q0 q1 q2 q3 q4 q5 q6 q7 q8 h5 X5
  go_upto_region 16 with fail
  obtain ⟨q9, q8, q7, q6, q5, q4, q3, q2, q1, q0, qT⟩ := RR.out.r.lts
  refine wp_region_told (by kernel_rfl) (by kernel_rfl) (by kernel_rfl) [(w.heap.size, (T3 x y z)), (g2_5, (Ar m_0)), (g3_5, (Ar m_1)), (g4_3, (Ar a_13)), (g5_4, (Ar a_5)), (g8_5, (Ar a_7)), (g9_7, (Ar d_10)), (g13_7, (Ar d_16)), (g14_5, (Ar m_17))]
    [sV (U d_10),
     sV (U d_16),
     sV (U m_17),
     sV (U m_17),
     sV (U a_18),
     sV (A3 d_10 d_16 a_18),
     sK (w.heap.size + 1) Z12 (T3 d_10 d_16 a_18)]
    (by kernel_rfl) RR.out.b (RowsAt.cons (RR.out.at 9 rfl) (RowsAt.cons (RR.out.at 7 rfl) (RowsAt.cons (RR.out.at 6 rfl) (RowsAt.cons (RR.out.at 5 rfl) (RowsAt.cons (RR.out.at 4 rfl) (RowsAt.cons (RR.out.at 3 rfl) (RowsAt.cons (RR.out.at 2 rfl) (RowsAt.cons (RR.out.at 1 rfl) (RowsAt.cons (RR.out.at 0 rfl) RowsAt.nil))))))))) (StOk.of [(w.heap.size + 1, Z12)] rfl (StM.cons (RR.out.at 8 rfl) (by omega) (Apart.cons (by omega) (Apart.cons (by omega) (Apart.cons (by omega) (Apart.cons (by omega) (Apart.cons (by omega) (Apart.cons (by omega) (Apart.cons (by omega) (Apart.cons (by omega) (Apart.cons (by omega) Apart.nil))))))))) Apart.nil StM.nil))
    (Obs.val (fun a' w' E => ob_loada 24 (.tmp 8) rfl (E.old 8 (by kernel_rfl)) (E.row (g := g9_7) (c := (Ar d_10)) 6 rfl) Tryd.underlying24 rfl (by kernel_rfl) rfl)
    (Obs.val (fun a' w' E => ob_loada 24 (.tmp 9) rfl (E.old 9 (by kernel_rfl)) (E.row (g := g13_7) (c := (Ar d_16)) 7 rfl) Tryd.underlying24 rfl (by kernel_rfl) rfl)
    (Obs.val (fun a' w' E => ob_loada 24 (.tmp 10) rfl (E.old 10 (by kernel_rfl)) (E.row (g := g14_5) (c := (Ar m_17)) 8 rfl) Tryd.underlying24 rfl (by kernel_rfl) rfl)
    (Obs.val (fun a' w' E => ob_loada 24 (.tmp 10) rfl (E.old 10 (by kernel_rfl)) (E.row (g := g14_5) (c := (Ar m_17)) 8 rfl) Tryd.underlying24 rfl (by kernel_rfl) rfl)
    (Obs.val (fun a' w' E => ob_fcall 58 _ _ rfl (am2 (E.new (v := (U m_17)) 80 2 (by kernel_rfl) rfl) (E.new (v := (U m_17)) 81 3 (by kernel_rfl) rfl)) (fc58 _ _) (c21.out w'))
    (Obs.val (fun a' w' E => ob_build 63 _ rfl (pm3 (E.new (v := (U d_10)) 78 0 (by kernel_rfl) rfl) (E.new (v := (U d_16)) 79 1 (by kernel_rfl) rfl) (E.new (v := (U a_18)) 82 4 (by kernel_rfl) rfl)) (bd63_0U_1U_2U _ _ _ w'))
    (Obs.stk (fun a' w' E hr => ob_storea 63 (.tmp 2) (.tmp 83) rfl (E.old 2 (by kernel_rfl)) (E.new (v := (A3 d_10 d_16 a_18)) 83 5 (by kernel_rfl) rfl) rfl hr (by kernel_rfl) (Nat.le_of_ble_eq_true rfl) (by kernel_rfl) rfl)
    Obs.nil))))))) ?_
  intro bs w15 aZ haZ F
  have eZ : aZ = ({ tmps := #[(A3 x y z), (PT w.heap.size), (PT (w.heap.size + 1)), (PT g2_5), (PT g3_5), (PT g4_3), (PT g5_4), (PT g8_5), (PT g9_7), (PT g13_7), (PT g14_5), (PO w.heap.size 8), (U z), (U 0), (.bool false), (.bool false), (PO w.heap.size 4), (U y), (U 0), (.bool false), (.bool false), undef, (PT w.heap.size), (U x), (PT w.heap.size), (U x), (U m_0), (PO w.heap.size 4), (U y), (PO w.heap.size 4), (U y), (U m_1), (U m_1), (U m_1), (U m_2), (PT w.heap.size), (U x), (U m_1), (U m_3), (U m_3), (U m_3), (U a_4), (U a_4), (U a_4), (U a_5), (U m_0), (U m_0), (U a_6), (U m_0), (U a_7), (U a_7), (U a_7), (U m_8), (U a_5), (U a_5), (U a_9), (U d_10), (U m_2), (U m_2), (U a_11), (U a_11), (U a_11), (U a_12), (U a_12), (U a_12), (U a_13), (U a_7), (U a_5), (U d_10), (U d_14), (U m_15), (U a_13), (U d_16), (PO w.heap.size 4), (U y), (PO w.heap.size 8), (U z), (U m_17), (U d_10), (U d_16), (U m_17), (U m_17), (U a_18), (A3 d_10 d_16 a_18)], defers := [] } : Act) := haZ.trans (by kernel_rfl)
  subst eZ
  clear haZ
  replace RR : Hid (RB w w15 [(g14_5, (Ar m_17)), (g13_7, (Ar d_16)), (g9_7, (Ar d_10)), (g8_5, (Ar a_7)), (g5_4, (Ar a_5)), (g4_3, (Ar a_13)), (g3_5, (Ar m_1)), (g2_5, (Ar m_0)), (w.heap.size + 1, (T3 d_10 d_16 a_18)), (w.heap.size, (T3 x y z))]) := ⟨F.bw, (RowsAt.cons (F.row 8 rfl) (RowsAt.cons (F.row 7 rfl) (RowsAt.cons (F.row 6 rfl) (RowsAt.cons (F.row 5 rfl) (RowsAt.cons (F.row 4 rfl) (RowsAt.cons (F.row 3 rfl) (RowsAt.cons (F.row 2 rfl) (RowsAt.cons (F.row 1 rfl) (RowsAt.cons (F.sk 6 rfl) (RowsAt.cons (F.row 0 rfl) RowsAt.nil))))))))))⟩
  clear F qT q0 q1 q2 q3 q4 q5 q6 q7 q8 q9
  go_wp2
  exact bodyPost_ret (v := (A3 d_10 d_16 a_18)) (resA (p := 2) (ty := 63) rfl (g := w.heap.size + 1) rfl (RR.out.at 8 rfl) Tryd.underlying63 rfl (by kernel_rfl)) rfl ⟨rfl, RR.out.b⟩
set_option maxRecDepth 100000 in
set_option maxHeartbeats 4000000 in
theorem join_none (x y z u v : Nat)
    (w : World) : Calls Tryd.prog 46 #[(A3 x y z), (A9 u v true)] w fun e w' => e = .returned (A3 x y z) ∧ Below w.heap.size w w' := by
  go_enter Tryd.func46, Tryd.ntmps46
  go_upto_region 1 with fail
  refine name_world _ ?_
  intro wF hF0
  have RR : Hid (RB w wF [(w.heap.size + 1 + 1, Z12), (w.heap.size + 1, (P9 u v true)), (w.heap.size, (T3 x y z))]) := by rw [hF0]; exact (rbN (rbN (rbN (rb0 w) (by simp)) (by simp)) (by simp))
  clear hF0
  obtain ⟨q2, q1, q0, qT⟩ := RR.out.r.lts
  refine wp_region_told (by kernel_rfl) (by kernel_rfl) (by kernel_rfl) [(w.heap.size, (T3 x y z)), (w.heap.size + 1, (P9 u v true)), (w.heap.size + 1 + 1, Z12)]
    [sV (PO (w.heap.size + 1) 8),
     sV (.bool true)]
    (by kernel_rfl) RR.out.b (RowsAt.cons (RR.out.at 2 rfl) (RowsAt.cons (RR.out.at 1 rfl) (RowsAt.cons (RR.out.at 0 rfl) RowsAt.nil))) (StOk.of [] rfl StM.nil)
    (Obs.val (fun a' w' E => ob_fieldAddr 26 (.tmp 3) 2 rfl (E.old 3 (by kernel_rfl)) (fa26_2 _ _ w'))
    (Obs.val (fun a' w' E => ob_load1 4 (.tmp 15) rfl (E.new (v := (PO (w.heap.size + 1) 8)) 15 0 (by kernel_rfl) rfl) (E.row (g := w.heap.size + 1) (c := (P9 u v true)) 1 rfl) Tryd.underlying4 rfl rfl)
    Obs.nil)) ?_
  intro bs w1 aZ haZ F
  have eZ : aZ = ({ tmps := #[(A3 x y z), (A9 u v true), (PT w.heap.size), (PT (w.heap.size + 1)), (PT (w.heap.size + 1 + 1)), undef, undef, undef, undef, undef, undef, undef, undef, undef, undef, (PO (w.heap.size + 1) 8), (.bool true), undef, undef, undef, undef, undef, undef, undef, undef, undef, undef, undef, undef, undef, undef, undef, undef, undef, undef, undef, undef, undef, undef, undef, undef, undef, undef, undef, undef, undef, undef, undef, undef, undef, undef, undef, undef, undef, undef, undef, undef, undef, undef, undef, undef, undef, undef, undef, undef, undef, undef, undef, undef, undef, undef, undef, undef, undef, undef, undef, undef, undef, undef, undef, undef, undef, undef, undef, undef, undef, undef, undef, undef, undef, undef, undef, undef, undef, undef, undef, undef], defers := [] } : Act) := haZ.trans (by kernel_rfl)
  subst eZ
  clear haZ
  replace RR : Hid (RB w w1 [(w.heap.size + 1 + 1, Z12), (w.heap.size + 1, (P9 u v true)), (w.heap.size, (T3 x y z))]) := ⟨F.bw, (RowsAt.cons (F.row 2 rfl) (RowsAt.cons (F.row 1 rfl) (RowsAt.cons (F.row 0 rfl) RowsAt.nil)))⟩
  clear F qT q0 q1 q2
  clear wF
  go_upto_region 2 with fail
  obtain ⟨q2, q1, q0, qT⟩ := RR.out.r.lts
  refine wp_region_told (by kernel_rfl) (by kernel_rfl) (by kernel_rfl) [(w.heap.size, (T3 x y z)), (w.heap.size + 1, (P9 u v true))]
    [sV (A3 x y z),
     sK (w.heap.size + 1 + 1) Z12 (T3 x y z)]
    (by kernel_rfl) RR.out.b (RowsAt.cons (RR.out.at 2 rfl) (RowsAt.cons (RR.out.at 1 rfl) RowsAt.nil)) (StOk.of [(w.heap.size + 1 + 1, Z12)] rfl (StM.cons (RR.out.at 0 rfl) (by omega) (Apart.cons (by omega) (Apart.cons (by omega) Apart.nil)) Apart.nil StM.nil))
    (Obs.val (fun a' w' E => ob_loada 63 (.tmp 2) rfl (E.old 2 (by kernel_rfl)) (E.row (g := w.heap.size) (c := (T3 x y z)) 0 rfl) Tryd.underlying63 rfl (by kernel_rfl) rfl)
    (Obs.stk (fun a' w' E hr => ob_storea 63 (.tmp 4) (.tmp 17) rfl (E.old 4 (by kernel_rfl)) (E.new (v := (A3 x y z)) 17 0 (by kernel_rfl) rfl) rfl hr (by kernel_rfl) (Nat.le_of_ble_eq_true rfl) (by kernel_rfl) rfl)
    Obs.nil)) ?_
  intro bs w2 aZ haZ F
  have eZ : aZ = ({ tmps := #[(A3 x y z), (A9 u v true), (PT w.heap.size), (PT (w.heap.size + 1)), (PT (w.heap.size + 1 + 1)), undef, undef, undef, undef, undef, undef, undef, undef, undef, undef, (PO (w.heap.size + 1) 8), (.bool true), (A3 x y z), undef, undef, undef, undef, undef, undef, undef, undef, undef, undef, undef, undef, undef, undef, undef, undef, undef, undef, undef, undef, undef, undef, undef, undef, undef, undef, undef, undef, undef, undef, undef, undef, undef, undef, undef, undef, undef, undef, undef, undef, undef, undef, undef, undef, undef, undef, undef, undef, undef, undef, undef, undef, undef, undef, undef, undef, undef, undef, undef, undef, undef, undef, undef, undef, undef, undef, undef, undef, undef, undef, undef, undef, undef, undef, undef, undef, undef, undef, undef], defers := [] } : Act) := haZ.trans (by kernel_rfl)
  subst eZ
  clear haZ
  replace RR : Hid (RB w w2 [(w.heap.size + 1 + 1, (T3 x y z)), (w.heap.size + 1, (P9 u v true)), (w.heap.size, (T3 x y z))]) := ⟨F.bw, (RowsAt.cons (F.sk 1 rfl) (RowsAt.cons (F.row 1 rfl) (RowsAt.cons (F.row 0 rfl) RowsAt.nil)))⟩
  clear F qT q0 q1 q2
  go_wp2
  exact bodyPost_ret (v := (A3 x y z)) (resA (p := 4) (ty := 63) rfl (g := w.heap.size + 1 + 1) rfl (RR.out.at 0 rfl) Tryd.underlying63 rfl (by kernel_rfl)) rfl ⟨rfl, RR.out.b⟩
set_option maxRecDepth 100000 in
set_option maxHeartbeats 4000000 in
theorem join_raw (x y z u v : Nat) {m_1 m_2 m_3 m_4 d_5 d_6 x_9 y_10 z_11 m_12 m_13 m_14 m_15 d_16 a_17 d_18 d_19 m_20 m_21 d_22 m_23 : Nat} {r_0 r_7 r_8 : Bool}
    (e1 : ∀ w, (Op.equalIn 10000 24 (U z) (U 0)).run Tryd.prog w = .ok r_0 w)
    (c2 : r_0 = false → Does 36 #[(U z), (U z)] (U m_1))
    (c3 : r_0 = false → Does 36 #[(U u), (U m_1)] (U m_2))
    (c4 : r_0 = false → Does 36 #[(U m_1), (U z)] (U m_3))
    (c5 : r_0 = false → Does 36 #[(U v), (U m_3)] (U m_4))
    (c6 : r_0 = false → Does 43 #[(U m_2), (U x)] (U d_5))
    (c7 : r_0 = false → Does 43 #[(U m_4), (U y)] (U d_6))
    (e8 : r_0 = false → ∀ w, (Op.equalIn 10000 24 (U d_5) (U 0)).run Tryd.prog w = .ok r_7 w)
    (e9 : r_0 = false → r_7 = true → ∀ w, (Op.equalIn 10000 24 (U d_6) (U 0)).run Tryd.prog w = .ok r_8 w)
    (c10 : r_0 = false → r_7 = true → r_8 = true → Does 51 #[(A3 x y z)] (A3 x_9 y_10 z_11))
    (c11 : r_0 = false → r_7 = false → Does 36 #[(U d_5), (U d_5)] (U m_12))
    (c12 : r_0 = false → r_7 = false → Does 36 #[(U m_12), (U d_5)] (U m_13))
    (c13 : r_0 = false → r_7 = false → Does 36 #[(U x), (U m_12)] (U m_14))
    (c14 : r_0 = false → r_7 = false → Does 36 #[(U d_6), (U d_6)] (U m_15))
    (c15 : r_0 = false → r_7 = false → Does 43 #[(U m_15), (U m_13)] (U d_16))
    (c16 : r_0 = false → r_7 = false → Does 58 #[(U m_14), (U m_14)] (U a_17))
    (c17 : r_0 = false → r_7 = false → Does 43 #[(U d_16), (U a_17)] (U d_18))
    (c18 : r_0 = false → r_7 = false → Does 43 #[(U m_14), (U d_18)] (U d_19))
    (c19 : r_0 = false → r_7 = false → Does 36 #[(U d_6), (U d_19)] (U m_20))
    (c20 : r_0 = false → r_7 = false → Does 36 #[(U y), (U m_13)] (U m_21))
    (c21 : r_0 = false → r_7 = false → Does 43 #[(U m_20), (U m_21)] (U d_22))
    (c22 : r_0 = false → r_7 = false → Does 36 #[(U z), (U d_5)] (U m_23))
    (w : World) : Calls Tryd.prog 46 #[(A3 x y z), (A9 u v false)] w fun e w' => e = .returned (cond r_0 (A3 u v 1) (cond r_7 (cond r_8 (A3 x_9 y_10 z_11) (A3 0 0 0)) (A3 d_18 d_22 m_23))) ∧ Below w.heap.size w w' := by
  go_enter Tryd.func46, Tryd.ntmps46
  go_upto_region 1 with fail
  refine name_world _ ?_
  intro wF hF0
  have RR : Hid (RB w wF [(w.heap.size + 1 + 1, Z12), (w.heap.size + 1, (P9 u v false)), (w.heap.size, (T3 x y z))]) := by rw [hF0]; exact (rbN (rbN (rbN (rb0 w) (by simp)) (by simp)) (by simp))
  clear hF0
  obtain ⟨q2, q1, q0, qT⟩ := RR.out.r.lts
  refine wp_region_told (by kernel_rfl) (by kernel_rfl) (by kernel_rfl) [(w.heap.size, (T3 x y z)), (w.heap.size + 1, (P9 u v false)), (w.heap.size + 1 + 1, Z12)]
    [sV (PO (w.heap.size + 1) 8),
     sV (.bool false)]
    (by kernel_rfl) RR.out.b (RowsAt.cons (RR.out.at 2 rfl) (RowsAt.cons (RR.out.at 1 rfl) (RowsAt.cons (RR.out.at 0 rfl) RowsAt.nil))) (StOk.of [] rfl StM.nil)
    (Obs.val (fun a' w' E => ob_fieldAddr 26 (.tmp 3) 2 rfl (E.old 3 (by kernel_rfl)) (fa26_2 _ _ w'))
    (Obs.val (fun a' w' E => ob_load1 4 (.tmp 15) rfl (E.new (v := (PO (w.heap.size + 1) 8)) 15 0 (by kernel_rfl) rfl) (E.row (g := w.heap.size + 1) (c := (P9 u v false)) 1 rfl) Tryd.underlying4 rfl rfl)
    Obs.nil)) ?_
  intro bs w1 aZ haZ F
  have eZ : aZ = ({ tmps := #[(A3 x y z), (A9 u v false), (PT w.heap.size), (PT (w.heap.size + 1)), (PT (w.heap.size + 1 + 1)), undef, undef, undef, undef, undef, undef, undef, undef, undef, undef, (PO (w.heap.size + 1) 8), (.bool false), undef, undef, undef, undef, undef, undef, undef, undef, undef, undef, undef, undef, undef, undef, undef, undef, undef, undef, undef, undef, undef, undef, undef, undef, undef, undef, undef, undef, undef, undef, undef, undef, undef, undef, undef, undef, undef, undef, undef, undef, undef, undef, undef, undef, undef, undef, undef, undef, undef, undef, undef, undef, undef, undef, undef, undef, undef, undef, undef, undef, undef, undef, undef, undef, undef, undef, undef, undef, undef, undef, undef, undef, undef, undef, undef, undef, undef, undef, undef, undef], defers := [] } : Act) := haZ.trans (by kernel_rfl)
  subst eZ
  clear haZ
  replace RR : Hid (RB w w1 [(w.heap.size + 1 + 1, Z12), (w.heap.size + 1, (P9 u v false)), (w.heap.size, (T3 x y z))]) := ⟨F.bw, (RowsAt.cons (F.row 2 rfl) (RowsAt.cons (F.row 1 rfl) (RowsAt.cons (F.row 0 rfl) RowsAt.nil)))⟩
  clear F qT q0 q1 q2
  clear wF
  go_upto_region 3 with fail
  obtain ⟨q2, q1, q0, qT⟩ := RR.out.r.lts
  refine wp_region_told (by kernel_rfl) (by kernel_rfl) (by kernel_rfl) [(w.heap.size, (T3 x y z)), (w.heap.size + 1, (P9 u v false)), (w.heap.size + 1 + 1, Z12)]
    [sV (PO w.heap.size 8),
     sV (U z),
     sV (U 0),
     sV (.bool r_0)]
    (by kernel_rfl) RR.out.b (RowsAt.cons (RR.out.at 2 rfl) (RowsAt.cons (RR.out.at 1 rfl) (RowsAt.cons (RR.out.at 0 rfl) RowsAt.nil))) (StOk.of [] rfl StM.nil)
    (Obs.val (fun a' w' E => ob_fieldAddr 63 (.tmp 2) 2 rfl (E.old 2 (by kernel_rfl)) (fa63_2 _ _ w'))
    (Obs.val (fun a' w' E => ob_loada 24 (.tmp 18) rfl (E.new (v := (PO w.heap.size 8)) 18 0 (by kernel_rfl) rfl) (E.row (g := w.heap.size) (c := (T3 x y z)) 0 rfl) Tryd.underlying24 rfl (by kernel_rfl) rfl)
    (Obs.val (fun a' w' E => ob_build 24 _ rfl (pm0) (bd24_ w'))
    (Obs.val (fun a' w' E => ob_binOp .eql 24 (.tmp 19) (.tmp 20) 24 rfl (E.new (v := (U z)) 19 1 (by kernel_rfl) rfl) (E.new (v := (U 0)) 20 2 (by kernel_rfl) rfl) (by simp [go_sem, e1]))
    Obs.nil)))) ?_
  intro bs w2 aZ haZ F
  have eZ : aZ = ({ tmps := #[(A3 x y z), (A9 u v false), (PT w.heap.size), (PT (w.heap.size + 1)), (PT (w.heap.size + 1 + 1)), undef, undef, undef, undef, undef, undef, undef, undef, undef, undef, (PO (w.heap.size + 1) 8), (.bool false), undef, (PO w.heap.size 8), (U z), (U 0), (.bool r_0), undef, undef, undef, undef, undef, undef, undef, undef, undef, undef, undef, undef, undef, undef, undef, undef, undef, undef, undef, undef, undef, undef, undef, undef, undef, undef, undef, undef, undef, undef, undef, undef, undef, undef, undef, undef, undef, undef, undef, undef, undef, undef, undef, undef, undef, undef, undef, undef, undef, undef, undef, undef, undef, undef, undef, undef, undef, undef, undef, undef, undef, undef, undef, undef, undef, undef, undef, undef, undef, undef, undef, undef, undef, undef, undef], defers := [] } : Act) := haZ.trans (by kernel_rfl)
  subst eZ
  clear haZ
  replace RR : Hid (RB w w2 [(w.heap.size + 1 + 1, Z12), (w.heap.size + 1, (P9 u v false)), (w.heap.size, (T3 x y z))]) := ⟨F.bw, (RowsAt.cons (F.row 2 rfl) (RowsAt.cons (F.row 1 rfl) (RowsAt.cons (F.row 0 rfl) RowsAt.nil)))⟩
  clear F qT q0 q1 q2
  cases r_0 with
  | true =>
    go_upto_region 4 with fail
    obtain ⟨q2, q1, q0, qT⟩ := RR.out.r.lts
    refine wp_region_told (by kernel_rfl) (by kernel_rfl) (by kernel_rfl) [(w.heap.size, (T3 x y z)), (w.heap.size + 1, (P9 u v false))]
      [sV (PT (w.heap.size + 1)),
       sV (U u),
       sV (PO (w.heap.size + 1) 4),
       sV (U v),
       sV (U 1),
       sV (A3 u v 1),
       sK (w.heap.size + 1 + 1) Z12 (T3 u v 1)]
      (by kernel_rfl) RR.out.b (RowsAt.cons (RR.out.at 2 rfl) (RowsAt.cons (RR.out.at 1 rfl) RowsAt.nil)) (StOk.of [(w.heap.size + 1 + 1, Z12)] rfl (StM.cons (RR.out.at 0 rfl) (by omega) (Apart.cons (by omega) (Apart.cons (by omega) Apart.nil)) Apart.nil StM.nil))
      (Obs.val (fun a' w' E => ob_fieldAddr 26 (.tmp 3) 0 rfl (E.old 3 (by kernel_rfl)) (fa26_0 _ _ w'))
      (Obs.val (fun a' w' E => ob_loada 24 (.tmp 22) rfl (E.new (v := (PT (w.heap.size + 1))) 22 0 (by kernel_rfl) rfl) (E.row (g := w.heap.size + 1) (c := (P9 u v false)) 1 rfl) Tryd.underlying24 rfl (by kernel_rfl) rfl)
      (Obs.val (fun a' w' E => ob_fieldAddr 26 (.tmp 3) 1 rfl (E.old 3 (by kernel_rfl)) (fa26_1 _ _ w'))
      (Obs.val (fun a' w' E => ob_loada 24 (.tmp 24) rfl (E.new (v := (PO (w.heap.size + 1) 4)) 24 2 (by kernel_rfl) rfl) (E.row (g := w.heap.size + 1) (c := (P9 u v false)) 1 rfl) Tryd.underlying24 rfl (by kernel_rfl) rfl)
      (Obs.val (fun a' w' E => ob_build 24 _ rfl (pm4 (evc a' (.int .u64 1)) (evc a' (.int .u64 0)) (evc a' (.int .u64 0)) (evc a' (.int .u64 0))) (bdk1 w'))
      (Obs.val (fun a' w' E => ob_build 63 _ rfl (pm3 (E.new (v := (U u)) 23 1 (by kernel_rfl) rfl) (E.new (v := (U v)) 25 3 (by kernel_rfl) rfl) (E.new (v := (U 1)) 26 4 (by kernel_rfl) rfl)) (bd63_0U_1U_2U _ _ _ w'))
      (Obs.stk (fun a' w' E hr => ob_storea 63 (.tmp 4) (.tmp 27) rfl (E.old 4 (by kernel_rfl)) (E.new (v := (A3 u v 1)) 27 5 (by kernel_rfl) rfl) rfl hr (by kernel_rfl) (Nat.le_of_ble_eq_true rfl) (by kernel_rfl) rfl)
      Obs.nil))))))) ?_
    intro bs w3 aZ haZ F
    have eZ : aZ = ({ tmps := #[(A3 x y z), (A9 u v false), (PT w.heap.size), (PT (w.heap.size + 1)), (PT (w.heap.size + 1 + 1)), undef, undef, undef, undef, undef, undef, undef, undef, undef, undef, (PO (w.heap.size + 1) 8), (.bool false), undef, (PO w.heap.size 8), (U z), (U 0), (.bool true), (PT (w.heap.size + 1)), (U u), (PO (w.heap.size + 1) 4), (U v), (U 1), (A3 u v 1), undef, undef, undef, undef, undef, undef, undef, undef, undef, undef, undef, undef, undef, undef, undef, undef, undef, undef, undef, undef, undef, undef, undef, undef, undef, undef, undef, undef, undef, undef, undef, undef, undef, undef, undef, undef, undef, undef, undef, undef, undef, undef, undef, undef, undef, undef, undef, undef, undef, undef, undef, undef, undef, undef, undef, undef, undef, undef, undef, undef, undef, undef, undef, undef, undef, undef, undef, undef, undef], defers := [] } : Act) := haZ.trans (by kernel_rfl)
    subst eZ
    clear haZ
    replace RR : Hid (RB w w3 [(w.heap.size + 1 + 1, (T3 u v 1)), (w.heap.size + 1, (P9 u v false)), (w.heap.size, (T3 x y z))]) := ⟨F.bw, (RowsAt.cons (F.sk 6 rfl) (RowsAt.cons (F.row 1 rfl) (RowsAt.cons (F.row 0 rfl) RowsAt.nil)))⟩
    clear F qT q0 q1 q2
    go_wp2
    exact bodyPost_ret (v := (A3 u v 1)) (resA (p := 4) (ty := 63) rfl (g := w.heap.size + 1 + 1) rfl (RR.out.at 0 rfl) Tryd.underlying63 rfl (by kernel_rfl)) rfl ⟨rfl, RR.out.b⟩
  | false =>
    go_upto_region 5 with fail
    obtain ⟨q2, q1, q0, qT⟩ := RR.out.r.lts
    refine wp_region_told (by kernel_rfl) (by kernel_rfl) (by kernel_rfl) [(w.heap.size, (T3 x y z)), (w.heap.size + 1, (P9 u v false)), (w.heap.size + 1 + 1, Z12)]
      [sV (PO w.heap.size 8),
       sV (U z),
       sV (PO w.heap.size 8),
       sV (U z),
       sV (U m_1),
       sA (fun g => .pointer (some ⟨g, 0, none⟩)) 6 Zr (Ar m_1),
       sS 5]
      (by kernel_rfl) RR.out.b (RowsAt.cons (RR.out.at 2 rfl) (RowsAt.cons (RR.out.at 1 rfl) (RowsAt.cons (RR.out.at 0 rfl) RowsAt.nil))) (StOk.of [] rfl StM.nil)
      (Obs.val (fun a' w' E => ob_fieldAddr 63 (.tmp 2) 2 rfl (E.old 2 (by kernel_rfl)) (fa63_2 _ _ w'))
      (Obs.val (fun a' w' E => ob_loada 24 (.tmp 28) rfl (E.new (v := (PO w.heap.size 8)) 28 0 (by kernel_rfl) rfl) (E.row (g := w.heap.size) (c := (T3 x y z)) 0 rfl) Tryd.underlying24 rfl (by kernel_rfl) rfl)
      (Obs.val (fun a' w' E => ob_fieldAddr 63 (.tmp 2) 2 rfl (E.old 2 (by kernel_rfl)) (fa63_2 _ _ w'))
      (Obs.val (fun a' w' E => ob_loada 24 (.tmp 30) rfl (E.new (v := (PO w.heap.size 8)) 30 2 (by kernel_rfl) rfl) (E.row (g := w.heap.size) (c := (T3 x y z)) 0 rfl) Tryd.underlying24 rfl (by kernel_rfl) rfl)
      (Obs.val (fun a' w' E => ob_fcall 36 _ _ rfl (am2 (E.new (v := (U z)) 29 1 (by kernel_rfl) rfl) (E.new (v := (U z)) 31 3 (by kernel_rfl) rfl)) (fc36 _ _) (((c2 rfl : Does 36 #[(U z), (U z)] (U m_1))).out w'))
      (Obs.alloc (fun a' w' E => ob_alloc (t := 24) (by simp [opAt, execOp, go_sem]))
      (Obs.sta rfl (fun a' w' g E ha hr => ob_storea 24 (.tmp 5) (.tmp 32) rfl (ha 5 (by kernel_rfl)) (E.new (v := (U m_1)) 32 4 (by kernel_rfl) rfl) rfl hr (by kernel_rfl) (Nat.le_of_ble_eq_true rfl) (by kernel_rfl) rfl)
      Obs.nil))))))) ?_
    intro bs w3 aZ haZ F
    have eZ : aZ = ({ tmps := #[(A3 x y z), (A9 u v false), (PT w.heap.size), (PT (w.heap.size + 1)), (PT (w.heap.size + 1 + 1)), (PT ((bs 5))), undef, undef, undef, undef, undef, undef, undef, undef, undef, (PO (w.heap.size + 1) 8), (.bool false), undef, (PO w.heap.size 8), (U z), (U 0), (.bool false), undef, undef, undef, undef, undef, undef, (PO w.heap.size 8), (U z), (PO w.heap.size 8), (U z), (U m_1), undef, undef, undef, undef, undef, undef, undef, undef, undef, undef, undef, undef, undef, undef, undef, undef, undef, undef, undef, undef, undef, undef, undef, undef, undef, undef, undef, undef, undef, undef, undef, undef, undef, undef, undef, undef, undef, undef, undef, undef, undef, undef, undef, undef, undef, undef, undef, undef, undef, undef, undef, undef, undef, undef, undef, undef, undef, undef, undef, undef, undef, undef, undef, undef], defers := [] } : Act) := haZ.trans (by kernel_rfl)
    subst eZ
    clear haZ
    obtain ⟨h5, X5⟩ := F.al 5 rfl rfl
    replace RR : Hid (RB w w3 [((bs 5), (Ar m_1)), (w.heap.size + 1 + 1, Z12), (w.heap.size + 1, (P9 u v false)), (w.heap.size, (T3 x y z))]) := ⟨F.bw, (RowsAt.cons X5 (RowsAt.cons (F.row 2 rfl) (RowsAt.cons (F.row 1 rfl) (RowsAt.cons (F.row 0 rfl) RowsAt.nil))))⟩
    generalize bs 5 = g3_5 at *
    have k3_5_0 := Nat.lt_of_lt_of_le q0 h5
    have k3_5_1 := Nat.lt_of_lt_of_le q1 h5
    have k3_5_2 := Nat.lt_of_lt_of_le q2 h5
    clear F qT q0 q1 q2 h5 X5
    go_upto_region 6 with fail
    obtain ⟨q3, q2, q1, q0, qT⟩ := RR.out.r.lts
    refine wp_region_told (by kernel_rfl) (by kernel_rfl) (by kernel_rfl) [(w.heap.size, (T3 x y z)), (w.heap.size + 1, (P9 u v false)), (w.heap.size + 1 + 1, Z12), (g3_5, (Ar m_1))]
      [sV (PT (w.heap.size + 1)),
       sV (U u),
       sV (U m_1),
       sV (U m_2),
       sA (fun g => .pointer (some ⟨g, 0, none⟩)) 5 Zr (Ar m_2),
       sS 4]
      (by kernel_rfl) RR.out.b (RowsAt.cons (RR.out.at 3 rfl) (RowsAt.cons (RR.out.at 2 rfl) (RowsAt.cons (RR.out.at 1 rfl) (RowsAt.cons (RR.out.at 0 rfl) RowsAt.nil)))) (StOk.of [] rfl StM.nil)
      (Obs.val (fun a' w' E => ob_fieldAddr 26 (.tmp 3) 0 rfl (E.old 3 (by kernel_rfl)) (fa26_0 _ _ w'))
      (Obs.val (fun a' w' E => ob_loada 24 (.tmp 33) rfl (E.new (v := (PT (w.heap.size + 1))) 33 0 (by kernel_rfl) rfl) (E.row (g := w.heap.size + 1) (c := (P9 u v false)) 1 rfl) Tryd.underlying24 rfl (by kernel_rfl) rfl)
      (Obs.val (fun a' w' E => ob_loada 24 (.tmp 5) rfl (E.old 5 (by kernel_rfl)) (E.row (g := g3_5) (c := (Ar m_1)) 3 rfl) Tryd.underlying24 rfl (by kernel_rfl) rfl)
      (Obs.val (fun a' w' E => ob_fcall 36 _ _ rfl (am2 (E.new (v := (U u)) 34 1 (by kernel_rfl) rfl) (E.new (v := (U m_1)) 35 2 (by kernel_rfl) rfl)) (fc36 _ _) (((c3 rfl : Does 36 #[(U u), (U m_1)] (U m_2))).out w'))
      (Obs.alloc (fun a' w' E => ob_alloc (t := 24) (by simp [opAt, execOp, go_sem]))
      (Obs.sta rfl (fun a' w' g E ha hr => ob_storea 24 (.tmp 6) (.tmp 36) rfl (ha 6 (by kernel_rfl)) (E.new (v := (U m_2)) 36 3 (by kernel_rfl) rfl) rfl hr (by kernel_rfl) (Nat.le_of_ble_eq_true rfl) (by kernel_rfl) rfl)
      Obs.nil)))))) ?_
    intro bs w4 aZ haZ F
    have eZ : aZ = ({ tmps := #[(A3 x y z), (A9 u v false), (PT w.heap.size), (PT (w.heap.size + 1)), (PT (w.heap.size + 1 + 1)), (PT g3_5), (PT ((bs 4))), undef, undef, undef, undef, undef, undef, undef, undef, (PO (w.heap.size + 1) 8), (.bool false), undef, (PO w.heap.size 8), (U z), (U 0), (.bool false), undef, undef, undef, undef, undef, undef, (PO w.heap.size 8), (U z), (PO w.heap.size 8), (U z), (U m_1), (PT (w.heap.size + 1)), (U u), (U m_1), (U m_2), undef, undef, undef, undef, undef, undef, undef, undef, undef, undef, undef, undef, undef, undef, undef, undef, undef, undef, undef, undef, undef, undef, undef, undef, undef, undef, undef, undef, undef, undef, undef, undef, undef, undef, undef, undef, undef, undef, undef, undef, undef, undef, undef, undef, undef, undef, undef, undef, undef, undef, undef, undef, undef, undef, undef, undef, undef, undef, undef, undef], defers := [] } : Act) := haZ.trans (by kernel_rfl)
    subst eZ
    clear haZ
    obtain ⟨h4, X4⟩ := F.al 4 rfl rfl
    replace RR : Hid (RB w w4 [((bs 4), (Ar m_2)), (g3_5, (Ar m_1)), (w.heap.size + 1 + 1, Z12), (w.heap.size + 1, (P9 u v false)), (w.heap.size, (T3 x y z))]) := ⟨F.bw, (RowsAt.cons X4 (RowsAt.cons (F.row 3 rfl) (RowsAt.cons (F.row 2 rfl) (RowsAt.cons (F.row 1 rfl) (RowsAt.cons (F.row 0 rfl) RowsAt.nil)))))⟩
    generalize bs 4 = g4_4 at *
    have k4_4_0 := Nat.lt_of_lt_of_le q0 h4
    have k4_4_1 := Nat.lt_of_lt_of_le q1 h4
    have k4_4_2 := Nat.lt_of_lt_of_le q2 h4
    have k4_4_3 := Nat.lt_of_lt_of_le q3 h4
    clear F qT q0 q1 q2 q3 h4 X4
    go_upto_region 7 with fail
    obtain ⟨q4, q3, q2, q1, q0, qT⟩ := RR.out.r.lts
    refine wp_region_told (by kernel_rfl) (by kernel_rfl) (by kernel_rfl) [(w.heap.size, (T3 x y z)), (w.heap.size + 1, (P9 u v false)), (w.heap.size + 1 + 1, Z12), (g3_5, (Ar m_1)), (g4_4, (Ar m_2))]
      [sV (PO (w.heap.size + 1) 4),
       sV (U v),
       sV (U m_1),
       sV (PO w.heap.size 8),
       sV (U z),
       sV (U m_3),
       sV (U m_4),
       sA (fun g => .pointer (some ⟨g, 0, none⟩)) 8 Zr (Ar m_4),
       sS 7]
      (by kernel_rfl) RR.out.b (RowsAt.cons (RR.out.at 4 rfl) (RowsAt.cons (RR.out.at 3 rfl) (RowsAt.cons (RR.out.at 2 rfl) (RowsAt.cons (RR.out.at 1 rfl) (RowsAt.cons (RR.out.at 0 rfl) RowsAt.nil))))) (StOk.of [] rfl StM.nil)
      (Obs.val (fun a' w' E => ob_fieldAddr 26 (.tmp 3) 1 rfl (E.old 3 (by kernel_rfl)) (fa26_1 _ _ w'))
      (Obs.val (fun a' w' E => ob_loada 24 (.tmp 37) rfl (E.new (v := (PO (w.heap.size + 1) 4)) 37 0 (by kernel_rfl) rfl) (E.row (g := w.heap.size + 1) (c := (P9 u v false)) 1 rfl) Tryd.underlying24 rfl (by kernel_rfl) rfl)
      (Obs.val (fun a' w' E => ob_loada 24 (.tmp 5) rfl (E.old 5 (by kernel_rfl)) (E.row (g := g3_5) (c := (Ar m_1)) 3 rfl) Tryd.underlying24 rfl (by kernel_rfl) rfl)
      (Obs.val (fun a' w' E => ob_fieldAddr 63 (.tmp 2) 2 rfl (E.old 2 (by kernel_rfl)) (fa63_2 _ _ w'))
      (Obs.val (fun a' w' E => ob_loada 24 (.tmp 40) rfl (E.new (v := (PO w.heap.size 8)) 40 3 (by kernel_rfl) rfl) (E.row (g := w.heap.size) (c := (T3 x y z)) 0 rfl) Tryd.underlying24 rfl (by kernel_rfl) rfl)
      (Obs.val (fun a' w' E => ob_fcall 36 _ _ rfl (am2 (E.new (v := (U m_1)) 39 2 (by kernel_rfl) rfl) (E.new (v := (U z)) 41 4 (by kernel_rfl) rfl)) (fc36 _ _) (((c4 rfl : Does 36 #[(U m_1), (U z)] (U m_3))).out w'))
      (Obs.val (fun a' w' E => ob_fcall 36 _ _ rfl (am2 (E.new (v := (U v)) 38 1 (by kernel_rfl) rfl) (E.new (v := (U m_3)) 42 5 (by kernel_rfl) rfl)) (fc36 _ _) (((c5 rfl : Does 36 #[(U v), (U m_3)] (U m_4))).out w'))
      (Obs.alloc (fun a' w' E => ob_alloc (t := 24) (by simp [opAt, execOp, go_sem]))
      (Obs.sta rfl (fun a' w' g E ha hr => ob_storea 24 (.tmp 7) (.tmp 43) rfl (ha 7 (by kernel_rfl)) (E.new (v := (U m_4)) 43 6 (by kernel_rfl) rfl) rfl hr (by kernel_rfl) (Nat.le_of_ble_eq_true rfl) (by kernel_rfl) rfl)
      Obs.nil))))))))) ?_
    intro bs w5 aZ haZ F
    have eZ : aZ = ({ tmps := #[(A3 x y z), (A9 u v false), (PT w.heap.size), (PT (w.heap.size + 1)), (PT (w.heap.size + 1 + 1)), (PT g3_5), (PT g4_4), (PT ((bs 7))), undef, undef, undef, undef, undef, undef, undef, (PO (w.heap.size + 1) 8), (.bool false), undef, (PO w.heap.size 8), (U z), (U 0), (.bool false), undef, undef, undef, undef, undef, undef, (PO w.heap.size 8), (U z), (PO w.heap.size 8), (U z), (U m_1), (PT (w.heap.size + 1)), (U u), (U m_1), (U m_2), (PO (w.heap.size + 1) 4), (U v), (U m_1), (PO w.heap.size 8), (U z), (U m_3), (U m_4), undef, undef, undef, undef, undef, undef, undef, undef, undef, undef, undef, undef, undef, undef, undef, undef, undef, undef, undef, undef, undef, undef, undef, undef, undef, undef, undef, undef, undef, undef, undef, undef, undef, undef, undef, undef, undef, undef, undef, undef, undef, undef, undef, undef, undef, undef, undef, undef, undef, undef, undef, undef, undef], defers := [] } : Act) := haZ.trans (by kernel_rfl)
    subst eZ
    clear haZ
    obtain ⟨h7, X7⟩ := F.al 7 rfl rfl
    replace RR : Hid (RB w w5 [((bs 7), (Ar m_4)), (g4_4, (Ar m_2)), (g3_5, (Ar m_1)), (w.heap.size + 1 + 1, Z12), (w.heap.size + 1, (P9 u v false)), (w.heap.size, (T3 x y z))]) := ⟨F.bw, (RowsAt.cons X7 (RowsAt.cons (F.row 4 rfl) (RowsAt.cons (F.row 3 rfl) (RowsAt.cons (F.row 2 rfl) (RowsAt.cons (F.row 1 rfl) (RowsAt.cons (F.row 0 rfl) RowsAt.nil))))))⟩
    generalize bs 7 = g5_7 at *
    have k5_7_0 := Nat.lt_of_lt_of_le q0 h7
    have k5_7_1 := Nat.lt_of_lt_of_le q1 h7
    have k5_7_2 := Nat.lt_of_lt_of_le q2 h7
    have k5_7_3 := Nat.lt_of_lt_of_le q3 h7
    have k5_7_4 := Nat.lt_of_lt_of_le q4 h7
    clear F qT q0 q1 q2 q3 q4 h7 X7
    go_upto_region 8 with fail
    obtain ⟨q5, q4, q3, q2, q1, q0, qT⟩ := RR.out.r.lts
    refine wp_region_told (by kernel_rfl) (by kernel_rfl) (by kernel_rfl) [(w.heap.size, (T3 x y z)), (w.heap.size + 1, (P9 u v false)), (w.heap.size + 1 + 1, Z12), (g3_5, (Ar m_1)), (g4_4, (Ar m_2)), (g5_7, (Ar m_4))]
      [sV (U m_2),
       sV (PT w.heap.size),
       sV (U x),
       sV (U d_5),
       sA (fun g => .pointer (some ⟨g, 0, none⟩)) 5 Zr (Ar d_5),
       sS 4]
      (by kernel_rfl) RR.out.b (RowsAt.cons (RR.out.at 5 rfl) (RowsAt.cons (RR.out.at 4 rfl) (RowsAt.cons (RR.out.at 3 rfl) (RowsAt.cons (RR.out.at 2 rfl) (RowsAt.cons (RR.out.at 1 rfl) (RowsAt.cons (RR.out.at 0 rfl) RowsAt.nil)))))) (StOk.of [] rfl StM.nil)
      (Obs.val (fun a' w' E => ob_loada 24 (.tmp 6) rfl (E.old 6 (by kernel_rfl)) (E.row (g := g4_4) (c := (Ar m_2)) 4 rfl) Tryd.underlying24 rfl (by kernel_rfl) rfl)
      (Obs.val (fun a' w' E => ob_fieldAddr 63 (.tmp 2) 0 rfl (E.old 2 (by kernel_rfl)) (fa63_0 _ _ w'))
      (Obs.val (fun a' w' E => ob_loada 24 (.tmp 45) rfl (E.new (v := (PT w.heap.size)) 45 1 (by kernel_rfl) rfl) (E.row (g := w.heap.size) (c := (T3 x y z)) 0 rfl) Tryd.underlying24 rfl (by kernel_rfl) rfl)
      (Obs.val (fun a' w' E => ob_fcall 43 _ _ rfl (am2 (E.new (v := (U m_2)) 44 0 (by kernel_rfl) rfl) (E.new (v := (U x)) 46 2 (by kernel_rfl) rfl)) (fc43 _ _) (((c6 rfl : Does 43 #[(U m_2), (U x)] (U d_5))).out w'))
      (Obs.alloc (fun a' w' E => ob_alloc (t := 24) (by simp [opAt, execOp, go_sem]))
      (Obs.sta rfl (fun a' w' g E ha hr => ob_storea 24 (.tmp 8) (.tmp 47) rfl (ha 8 (by kernel_rfl)) (E.new (v := (U d_5)) 47 3 (by kernel_rfl) rfl) rfl hr (by kernel_rfl) (Nat.le_of_ble_eq_true rfl) (by kernel_rfl) rfl)
      Obs.nil)))))) ?_
    intro bs w6 aZ haZ F
    have eZ : aZ = ({ tmps := #[(A3 x y z), (A9 u v false), (PT w.heap.size), (PT (w.heap.size + 1)), (PT (w.heap.size + 1 + 1)), (PT g3_5), (PT g4_4), (PT g5_7), (PT ((bs 4))), undef, undef, undef, undef, undef, undef, (PO (w.heap.size + 1) 8), (.bool false), undef, (PO w.heap.size 8), (U z), (U 0), (.bool false), undef, undef, undef, undef, undef, undef, (PO w.heap.size 8), (U z), (PO w.heap.size 8), (U z), (U m_1), (PT (w.heap.size + 1)), (U u), (U m_1), (U m_2), (PO (w.heap.size + 1) 4), (U v), (U m_1), (PO w.heap.size 8), (U z), (U m_3), (U m_4), (U m_2), (PT w.heap.size), (U x), (U d_5), undef, undef, undef, undef, undef, undef, undef, undef, undef, undef, undef, undef, undef, undef, undef, undef, undef, undef, undef, undef, undef, undef, undef, undef, undef, undef, undef, undef, undef, undef, undef, undef, undef, undef, undef, undef, undef, undef, undef, undef, undef, undef, undef, undef, undef, undef, undef, undef, undef], defers := [] } : Act) := haZ.trans (by kernel_rfl)
    subst eZ
    clear haZ
    obtain ⟨h4, X4⟩ := F.al 4 rfl rfl
    replace RR : Hid (RB w w6 [((bs 4), (Ar d_5)), (g5_7, (Ar m_4)), (g4_4, (Ar m_2)), (g3_5, (Ar m_1)), (w.heap.size + 1 + 1, Z12), (w.heap.size + 1, (P9 u v false)), (w.heap.size, (T3 x y z))]) := ⟨F.bw, (RowsAt.cons X4 (RowsAt.cons (F.row 5 rfl) (RowsAt.cons (F.row 4 rfl) (RowsAt.cons (F.row 3 rfl) (RowsAt.cons (F.row 2 rfl) (RowsAt.cons (F.row 1 rfl) (RowsAt.cons (F.row 0 rfl) RowsAt.nil)))))))⟩
    generalize bs 4 = g6_4 at *
    have k6_4_0 := Nat.lt_of_lt_of_le q0 h4
    have k6_4_1 := Nat.lt_of_lt_of_le q1 h4
    have k6_4_2 := Nat.lt_of_lt_of_le q2 h4
    have k6_4_3 := Nat.lt_of_lt_of_le q3 h4
    have k6_4_4 := Nat.lt_of_lt_of_le q4 h4
    have k6_4_5 := Nat.lt_of_lt_of_le q5 h4
    clear F qT q0 q1 q2 q3 q4 q5 h4 X4
    go_upto_region 9 with fail
    obtain ⟨q6, q5, q4, q3, q2, q1, q0, qT⟩ := RR.out.r.lts
    refine wp_region_told (by kernel_rfl) (by kernel_rfl) (by kernel_rfl) [(w.heap.size, (T3 x y z)), (w.heap.size + 1, (P9 u v false)), (w.heap.size + 1 + 1, Z12), (g3_5, (Ar m_1)), (g4_4, (Ar m_2)), (g5_7, (Ar m_4)), (g6_4, (Ar d_5))]
      [sV (U m_4),
       sV (PO w.heap.size 4),
       sV (U y),
       sV (U d_6),
       sA (fun g => .pointer (some ⟨g, 0, none⟩)) 5 Zr (Ar d_6),
       sS 4]
      (by kernel_rfl) RR.out.b (RowsAt.cons (RR.out.at 6 rfl) (RowsAt.cons (RR.out.at 5 rfl) (RowsAt.cons (RR.out.at 4 rfl) (RowsAt.cons (RR.out.at 3 rfl) (RowsAt.cons (RR.out.at 2 rfl) (RowsAt.cons (RR.out.at 1 rfl) (RowsAt.cons (RR.out.at 0 rfl) RowsAt.nil))))))) (StOk.of [] rfl StM.nil)
      (Obs.val (fun a' w' E => ob_loada 24 (.tmp 7) rfl (E.old 7 (by kernel_rfl)) (E.row (g := g5_7) (c := (Ar m_4)) 5 rfl) Tryd.underlying24 rfl (by kernel_rfl) rfl)
      (Obs.val (fun a' w' E => ob_fieldAddr 63 (.tmp 2) 1 rfl (E.old 2 (by kernel_rfl)) (fa63_1 _ _ w'))
      (Obs.val (fun a' w' E => ob_loada 24 (.tmp 49) rfl (E.new (v := (PO w.heap.size 4)) 49 1 (by kernel_rfl) rfl) (E.row (g := w.heap.size) (c := (T3 x y z)) 0 rfl) Tryd.underlying24 rfl (by kernel_rfl) rfl)
      (Obs.val (fun a' w' E => ob_fcall 43 _ _ rfl (am2 (E.new (v := (U m_4)) 48 0 (by kernel_rfl) rfl) (E.new (v := (U y)) 50 2 (by kernel_rfl) rfl)) (fc43 _ _) (((c7 rfl : Does 43 #[(U m_4), (U y)] (U d_6))).out w'))
      (Obs.alloc (fun a' w' E => ob_alloc (t := 24) (by simp [opAt, execOp, go_sem]))
      (Obs.sta rfl (fun a' w' g E ha hr => ob_storea 24 (.tmp 9) (.tmp 51) rfl (ha 9 (by kernel_rfl)) (E.new (v := (U d_6)) 51 3 (by kernel_rfl) rfl) rfl hr (by kernel_rfl) (Nat.le_of_ble_eq_true rfl) (by kernel_rfl) rfl)
      Obs.nil)))))) ?_
    intro bs w7 aZ haZ F
    have eZ : aZ = ({ tmps := #[(A3 x y z), (A9 u v false), (PT w.heap.size), (PT (w.heap.size + 1)), (PT (w.heap.size + 1 + 1)), (PT g3_5), (PT g4_4), (PT g5_7), (PT g6_4), (PT ((bs 4))), undef, undef, undef, undef, undef, (PO (w.heap.size + 1) 8), (.bool false), undef, (PO w.heap.size 8), (U z), (U 0), (.bool false), undef, undef, undef, undef, undef, undef, (PO w.heap.size 8), (U z), (PO w.heap.size 8), (U z), (U m_1), (PT (w.heap.size + 1)), (U u), (U m_1), (U m_2), (PO (w.heap.size + 1) 4), (U v), (U m_1), (PO w.heap.size 8), (U z), (U m_3), (U m_4), (U m_2), (PT w.heap.size), (U x), (U d_5), (U m_4), (PO w.heap.size 4), (U y), (U d_6), undef, undef, undef, undef, undef, undef, undef, undef, undef, undef, undef, undef, undef, undef, undef, undef, undef, undef, undef, undef, undef, undef, undef, undef, undef, undef, undef, undef, undef, undef, undef, undef, undef, undef, undef, undef, undef, undef, undef, undef, undef, undef, undef, undef, undef], defers := [] } : Act) := haZ.trans (by kernel_rfl)
    subst eZ
    clear haZ
    obtain ⟨h4, X4⟩ := F.al 4 rfl rfl
    replace RR : Hid (RB w w7 [((bs 4), (Ar d_6)), (g6_4, (Ar d_5)), (g5_7, (Ar m_4)), (g4_4, (Ar m_2)), (g3_5, (Ar m_1)), (w.heap.size + 1 + 1, Z12), (w.heap.size + 1, (P9 u v false)), (w.heap.size, (T3 x y z))]) := ⟨F.bw, (RowsAt.cons X4 (RowsAt.cons (F.row 6 rfl) (RowsAt.cons (F.row 5 rfl) (RowsAt.cons (F.row 4 rfl) (RowsAt.cons (F.row 3 rfl) (RowsAt.cons (F.row 2 rfl) (RowsAt.cons (F.row 1 rfl) (RowsAt.cons (F.row 0 rfl) RowsAt.nil))))))))⟩
    generalize bs 4 = g7_4 at *
    have k7_4_0 := Nat.lt_of_lt_of_le q0 h4
    have k7_4_1 := Nat.lt_of_lt_of_le q1 h4
    have k7_4_2 := Nat.lt_of_lt_of_le q2 h4
    have k7_4_3 := Nat.lt_of_lt_of_le q3 h4
    have k7_4_4 := Nat.lt_of_lt_of_le q4 h4
    have k7_4_5 := Nat.lt_of_lt_of_le q5 h4
    have k7_4_6 := Nat.lt_of_lt_of_le q6 h4
    clear F qT q0 q1 q2 q3 q4 q5 q6 h4 X4
    go_upto_region 10 with fail
    obtain ⟨q7, q6, q5, q4, q3, q2, q1, q0, qT⟩ := RR.out.r.lts
    refine wp_region_told (by kernel_rfl) (by kernel_rfl) (by kernel_rfl) [(w.heap.size, (T3 x y z)), (w.heap.size + 1, (P9 u v false)), (w.heap.size + 1 + 1, Z12), (g3_5, (Ar m_1)), (g4_4, (Ar m_2)), (g5_7, (Ar m_4)), (g6_4, (Ar d_5)), (g7_4, (Ar d_6))]
      [sV (U d_5),
       sV (U 0),
       sV (.bool r_7)]
      (by kernel_rfl) RR.out.b (RowsAt.cons (RR.out.at 7 rfl) (RowsAt.cons (RR.out.at 6 rfl) (RowsAt.cons (RR.out.at 5 rfl) (RowsAt.cons (RR.out.at 4 rfl) (RowsAt.cons (RR.out.at 3 rfl) (RowsAt.cons (RR.out.at 2 rfl) (RowsAt.cons (RR.out.at 1 rfl) (RowsAt.cons (RR.out.at 0 rfl) RowsAt.nil)))))))) (StOk.of [] rfl StM.nil)
      (Obs.val (fun a' w' E => ob_loada 24 (.tmp 8) rfl (E.old 8 (by kernel_rfl)) (E.row (g := g6_4) (c := (Ar d_5)) 6 rfl) Tryd.underlying24 rfl (by kernel_rfl) rfl)
      (Obs.val (fun a' w' E => ob_build 24 _ rfl (pm0) (bd24_ w'))
      (Obs.val (fun a' w' E => ob_binOp .eql 24 (.tmp 52) (.tmp 53) 24 rfl (E.new (v := (U d_5)) 52 0 (by kernel_rfl) rfl) (E.new (v := (U 0)) 53 1 (by kernel_rfl) rfl) (by simp [go_sem, (e8 rfl)]))
      Obs.nil))) ?_
    intro bs w8 aZ haZ F
    have eZ : aZ = ({ tmps := #[(A3 x y z), (A9 u v false), (PT w.heap.size), (PT (w.heap.size + 1)), (PT (w.heap.size + 1 + 1)), (PT g3_5), (PT g4_4), (PT g5_7), (PT g6_4), (PT g7_4), undef, undef, undef, undef, undef, (PO (w.heap.size + 1) 8), (.bool false), undef, (PO w.heap.size 8), (U z), (U 0), (.bool false), undef, undef, undef, undef, undef, undef, (PO w.heap.size 8), (U z), (PO w.heap.size 8), (U z), (U m_1), (PT (w.heap.size + 1)), (U u), (U m_1), (U m_2), (PO (w.heap.size + 1) 4), (U v), (U m_1), (PO w.heap.size 8), (U z), (U m_3), (U m_4), (U m_2), (PT w.heap.size), (U x), (U d_5), (U m_4), (PO w.heap.size 4), (U y), (U d_6), (U d_5), (U 0), (.bool r_7), undef, undef, undef, undef, undef, undef, undef, undef, undef, undef, undef, undef, undef, undef, undef, undef, undef, undef, undef, undef, undef, undef, undef, undef, undef, undef, undef, undef, undef, undef, undef, undef, undef, undef, undef, undef, undef, undef, undef, undef, undef, undef], defers := [] } : Act) := haZ.trans (by kernel_rfl)
    subst eZ
    clear haZ
    replace RR : Hid (RB w w8 [(g7_4, (Ar d_6)), (g6_4, (Ar d_5)), (g5_7, (Ar m_4)), (g4_4, (Ar m_2)), (g3_5, (Ar m_1)), (w.heap.size + 1 + 1, Z12), (w.heap.size + 1, (P9 u v false)), (w.heap.size, (T3 x y z))]) := ⟨F.bw, (RowsAt.cons (F.row 7 rfl) (RowsAt.cons (F.row 6 rfl) (RowsAt.cons (F.row 5 rfl) (RowsAt.cons (F.row 4 rfl) (RowsAt.cons (F.row 3 rfl) (RowsAt.cons (F.row 2 rfl) (RowsAt.cons (F.row 1 rfl) (RowsAt.cons (F.row 0 rfl) RowsAt.nil))))))))⟩
    clear F qT q0 q1 q2 q3 q4 q5 q6 q7
    cases r_7 with
    | true =>
      go_upto_region 11 with fail
      obtain ⟨q7, q6, q5, q4, q3, q2, q1, q0, qT⟩ := RR.out.r.lts
      refine wp_region_told (by kernel_rfl) (by kernel_rfl) (by kernel_rfl) [(w.heap.size, (T3 x y z)), (w.heap.size + 1, (P9 u v false)), (w.heap.size + 1 + 1, Z12), (g3_5, (Ar m_1)), (g4_4, (Ar m_2)), (g5_7, (Ar m_4)), (g6_4, (Ar d_5)), (g7_4, (Ar d_6))]
        [sV (U d_6),
         sV (U 0),
         sV (.bool r_8)]
        (by kernel_rfl) RR.out.b (RowsAt.cons (RR.out.at 7 rfl) (RowsAt.cons (RR.out.at 6 rfl) (RowsAt.cons (RR.out.at 5 rfl) (RowsAt.cons (RR.out.at 4 rfl) (RowsAt.cons (RR.out.at 3 rfl) (RowsAt.cons (RR.out.at 2 rfl) (RowsAt.cons (RR.out.at 1 rfl) (RowsAt.cons (RR.out.at 0 rfl) RowsAt.nil)))))))) (StOk.of [] rfl StM.nil)
        (Obs.val (fun a' w' E => ob_loada 24 (.tmp 9) rfl (E.old 9 (by kernel_rfl)) (E.row (g := g7_4) (c := (Ar d_6)) 7 rfl) Tryd.underlying24 rfl (by kernel_rfl) rfl)
        (Obs.val (fun a' w' E => ob_build 24 _ rfl (pm0) (bd24_ w'))
        (Obs.val (fun a' w' E => ob_binOp .eql 24 (.tmp 55) (.tmp 56) 24 rfl (E.new (v := (U d_6)) 55 0 (by kernel_rfl) rfl) (E.new (v := (U 0)) 56 1 (by kernel_rfl) rfl) (by simp [go_sem, (e9 rfl rfl)]))
        Obs.nil))) ?_
      intro bs w9 aZ haZ F
      have eZ : aZ = ({ tmps := #[(A3 x y z), (A9 u v false), (PT w.heap.size), (PT (w.heap.size + 1)), (PT (w.heap.size + 1 + 1)), (PT g3_5), (PT g4_4), (PT g5_7), (PT g6_4), (PT g7_4), undef, undef, undef, undef, undef, (PO (w.heap.size + 1) 8), (.bool false), undef, (PO w.heap.size 8), (U z), (U 0), (.bool false), undef, undef, undef, undef, undef, undef, (PO w.heap.size 8), (U z), (PO w.heap.size 8), (U z), (U m_1), (PT (w.heap.size + 1)), (U u), (U m_1), (U m_2), (PO (w.heap.size + 1) 4), (U v), (U m_1), (PO w.heap.size 8), (U z), (U m_3), (U m_4), (U m_2), (PT w.heap.size), (U x), (U d_5), (U m_4), (PO w.heap.size 4), (U y), (U d_6), (U d_5), (U 0), (.bool true), (U d_6), (U 0), (.bool r_8), undef, undef, undef, undef, undef, undef, undef, undef, undef, undef, undef, undef, undef, undef, undef, undef, undef, undef, undef, undef, undef, undef, undef, undef, undef, undef, undef, undef, undef, undef, undef, undef, undef, undef, undef, undef, undef, undef, undef], defers := [] } : Act) := haZ.trans (by kernel_rfl)
      subst eZ
      clear haZ
      replace RR : Hid (RB w w9 [(g7_4, (Ar d_6)), (g6_4, (Ar d_5)), (g5_7, (Ar m_4)), (g4_4, (Ar m_2)), (g3_5, (Ar m_1)), (w.heap.size + 1 + 1, Z12), (w.heap.size + 1, (P9 u v false)), (w.heap.size, (T3 x y z))]) := ⟨F.bw, (RowsAt.cons (F.row 7 rfl) (RowsAt.cons (F.row 6 rfl) (RowsAt.cons (F.row 5 rfl) (RowsAt.cons (F.row 4 rfl) (RowsAt.cons (F.row 3 rfl) (RowsAt.cons (F.row 2 rfl) (RowsAt.cons (F.row 1 rfl) (RowsAt.cons (F.row 0 rfl) RowsAt.nil))))))))⟩
      clear F qT q0 q1 q2 q3 q4 q5 q6 q7
      cases r_8 with
      | true =>
        go_upto_region 12 with fail
        obtain ⟨q7, q6, q5, q4, q3, q2, q1, q0, qT⟩ := RR.out.r.lts
        refine wp_region_told (by kernel_rfl) (by kernel_rfl) (by kernel_rfl) [(w.heap.size, (T3 x y z)), (w.heap.size + 1, (P9 u v false)), (g3_5, (Ar m_1)), (g4_4, (Ar m_2)), (g5_7, (Ar m_4)), (g6_4, (Ar d_5)), (g7_4, (Ar d_6))]
          [sV (A3 x y z),
           sV (A3 x_9 y_10 z_11),
           sK (w.heap.size + 1 + 1) Z12 (T3 x_9 y_10 z_11)]
          (by kernel_rfl) RR.out.b (RowsAt.cons (RR.out.at 7 rfl) (RowsAt.cons (RR.out.at 6 rfl) (RowsAt.cons (RR.out.at 4 rfl) (RowsAt.cons (RR.out.at 3 rfl) (RowsAt.cons (RR.out.at 2 rfl) (RowsAt.cons (RR.out.at 1 rfl) (RowsAt.cons (RR.out.at 0 rfl) RowsAt.nil))))))) (StOk.of [(w.heap.size + 1 + 1, Z12)] rfl (StM.cons (RR.out.at 5 rfl) (by omega) (Apart.cons (by omega) (Apart.cons (by omega) (Apart.cons (by omega) (Apart.cons (by omega) (Apart.cons (by omega) (Apart.cons (by omega) (Apart.cons (by omega) Apart.nil))))))) Apart.nil StM.nil))
          (Obs.val (fun a' w' E => ob_loada 63 (.tmp 2) rfl (E.old 2 (by kernel_rfl)) (E.row (g := w.heap.size) (c := (T3 x y z)) 0 rfl) Tryd.underlying63 rfl (by kernel_rfl) rfl)
          (Obs.val (fun a' w' E => ob_fcall 51 _ _ rfl (am1 (E.new (v := (A3 x y z)) 58 0 (by kernel_rfl) rfl)) (fc51 _ _) (((c10 rfl rfl rfl : Does 51 #[(A3 x y z)] (A3 x_9 y_10 z_11))).out w'))
          (Obs.stk (fun a' w' E hr => ob_storea 63 (.tmp 4) (.tmp 59) rfl (E.old 4 (by kernel_rfl)) (E.new (v := (A3 x_9 y_10 z_11)) 59 1 (by kernel_rfl) rfl) rfl hr (by kernel_rfl) (Nat.le_of_ble_eq_true rfl) (by kernel_rfl) rfl)
          Obs.nil))) ?_
        intro bs w10 aZ haZ F
        have eZ : aZ = ({ tmps := #[(A3 x y z), (A9 u v false), (PT w.heap.size), (PT (w.heap.size + 1)), (PT (w.heap.size + 1 + 1)), (PT g3_5), (PT g4_4), (PT g5_7), (PT g6_4), (PT g7_4), undef, undef, undef, undef, undef, (PO (w.heap.size + 1) 8), (.bool false), undef, (PO w.heap.size 8), (U z), (U 0), (.bool false), undef, undef, undef, undef, undef, undef, (PO w.heap.size 8), (U z), (PO w.heap.size 8), (U z), (U m_1), (PT (w.heap.size + 1)), (U u), (U m_1), (U m_2), (PO (w.heap.size + 1) 4), (U v), (U m_1), (PO w.heap.size 8), (U z), (U m_3), (U m_4), (U m_2), (PT w.heap.size), (U x), (U d_5), (U m_4), (PO w.heap.size 4), (U y), (U d_6), (U d_5), (U 0), (.bool true), (U d_6), (U 0), (.bool true), (A3 x y z), (A3 x_9 y_10 z_11), undef, undef, undef, undef, undef, undef, undef, undef, undef, undef, undef, undef, undef, undef, undef, undef, undef, undef, undef, undef, undef, undef, undef, undef, undef, undef, undef, undef, undef, undef, undef, undef, undef, undef, undef, undef, undef], defers := [] } : Act) := haZ.trans (by kernel_rfl)
        subst eZ
        clear haZ
        replace RR : Hid (RB w w10 [(g7_4, (Ar d_6)), (g6_4, (Ar d_5)), (g5_7, (Ar m_4)), (g4_4, (Ar m_2)), (g3_5, (Ar m_1)), (w.heap.size + 1 + 1, (T3 x_9 y_10 z_11)), (w.heap.size + 1, (P9 u v false)), (w.heap.size, (T3 x y z))]) := ⟨F.bw, (RowsAt.cons (F.row 6 rfl) (RowsAt.cons (F.row 5 rfl) (RowsAt.cons (F.row 4 rfl) (RowsAt.cons (F.row 3 rfl) (RowsAt.cons (F.row 2 rfl) (RowsAt.cons (F.sk 2 rfl) (RowsAt.cons (F.row 1 rfl) (RowsAt.cons (F.row 0 rfl) RowsAt.nil))))))))⟩
        clear F qT q0 q1 q2 q3 q4 q5 q6 q7
        go_wp2
        exact bodyPost_ret (v := (A3 x_9 y_10 z_11)) (resA (p := 4) (ty := 63) rfl (g := w.heap.size + 1 + 1) rfl (RR.out.at 5 rfl) Tryd.underlying63 rfl (by kernel_rfl)) rfl ⟨rfl, RR.out.b⟩
      | false =>
        go_upto_region 13 with fail
        obtain ⟨q7, q6, q5, q4, q3, q2, q1, q0, qT⟩ := RR.out.r.lts
        refine wp_region_told (by kernel_rfl) (by kernel_rfl) (by kernel_rfl) [(w.heap.size, (T3 x y z)), (w.heap.size + 1, (P9 u v false)), (g3_5, (Ar m_1)), (g4_4, (Ar m_2)), (g5_7, (Ar m_4)), (g6_4, (Ar d_5)), (g7_4, (Ar d_6))]
          [sV (A3 0 0 0),
           sK (w.heap.size + 1 + 1) Z12 (T3 0 0 0)]
          (by kernel_rfl) RR.out.b (RowsAt.cons (RR.out.at 7 rfl) (RowsAt.cons (RR.out.at 6 rfl) (RowsAt.cons (RR.out.at 4 rfl) (RowsAt.cons (RR.out.at 3 rfl) (RowsAt.cons (RR.out.at 2 rfl) (RowsAt.cons (RR.out.at 1 rfl) (RowsAt.cons (RR.out.at 0 rfl) RowsAt.nil))))))) (StOk.of [(w.heap.size + 1 + 1, Z12)] rfl (StM.cons (RR.out.at 5 rfl) (by omega) (Apart.cons (by omega) (Apart.cons (by omega) (Apart.cons (by omega) (Apart.cons (by omega) (Apart.cons (by omega) (Apart.cons (by omega) (Apart.cons (by omega) Apart.nil))))))) Apart.nil StM.nil))
          (Obs.val (fun a' w' E => ob_build 63 _ rfl (pm0) (bd63_ w'))
          (Obs.stk (fun a' w' E hr => ob_storea 63 (.tmp 4) (.tmp 60) rfl (E.old 4 (by kernel_rfl)) (E.new (v := (A3 0 0 0)) 60 0 (by kernel_rfl) rfl) rfl hr (by kernel_rfl) (Nat.le_of_ble_eq_true rfl) (by kernel_rfl) rfl)
          Obs.nil)) ?_
        intro bs w10 aZ haZ F
        have eZ : aZ = ({ tmps := #[(A3 x y z), (A9 u v false), (PT w.heap.size), (PT (w.heap.size + 1)), (PT (w.heap.size + 1 + 1)), (PT g3_5), (PT g4_4), (PT g5_7), (PT g6_4), (PT g7_4), undef, undef, undef, undef, undef, (PO (w.heap.size + 1) 8), (.bool false), undef, (PO w.heap.size 8), (U z), (U 0), (.bool false), undef, undef, undef, undef, undef, undef, (PO w.heap.size 8), (U z), (PO w.heap.size 8), (U z), (U m_1), (PT (w.heap.size + 1)), (U u), (U m_1), (U m_2), (PO (w.heap.size + 1) 4), (U v), (U m_1), (PO w.heap.size 8), (U z), (U m_3), (U m_4), (U m_2), (PT w.heap.size), (U x), (U d_5), (U m_4), (PO w.heap.size 4), (U y), (U d_6), (U d_5), (U 0), (.bool true), (U d_6), (U 0), (.bool false), undef, undef, (A3 0 0 0), undef, undef, undef, undef, undef, undef, undef, undef, undef, undef, undef, undef, undef, undef, undef, undef, undef, undef, undef, undef, undef, undef, undef, undef, undef, undef, undef, undef, undef, undef, undef, undef, undef, undef, undef, undef], defers := [] } : Act) := haZ.trans (by kernel_rfl)
        subst eZ
        clear haZ
        replace RR : Hid (RB w w10 [(g7_4, (Ar d_6)), (g6_4, (Ar d_5)), (g5_7, (Ar m_4)), (g4_4, (Ar m_2)), (g3_5, (Ar m_1)), (w.heap.size + 1 + 1, (T3 0 0 0)), (w.heap.size + 1, (P9 u v false)), (w.heap.size, (T3 x y z))]) := ⟨F.bw, (RowsAt.cons (F.row 6 rfl) (RowsAt.cons (F.row 5 rfl) (RowsAt.cons (F.row 4 rfl) (RowsAt.cons (F.row 3 rfl) (RowsAt.cons (F.row 2 rfl) (RowsAt.cons (F.sk 1 rfl) (RowsAt.cons (F.row 1 rfl) (RowsAt.cons (F.row 0 rfl) RowsAt.nil))))))))⟩
        clear F qT q0 q1 q2 q3 q4 q5 q6 q7
        go_wp2
        exact bodyPost_ret (v := (A3 0 0 0)) (resA (p := 4) (ty := 63) rfl (g := w.heap.size + 1 + 1) rfl (RR.out.at 5 rfl) Tryd.underlying63 rfl (by kernel_rfl)) rfl ⟨rfl, RR.out.b⟩
    | false =>
      go_upto_region 14 with fail
      obtain ⟨q7, q6, q5, q4, q3, q2, q1, q0, qT⟩ := RR.out.r.lts
      refine wp_region_told (by kernel_rfl) (by kernel_rfl) (by kernel_rfl) [(w.heap.size, (T3 x y z)), (w.heap.size + 1, (P9 u v false)), (w.heap.size + 1 + 1, Z12), (g3_5, (Ar m_1)), (g4_4, (Ar m_2)), (g5_7, (Ar m_4)), (g6_4, (Ar d_5)), (g7_4, (Ar d_6))]
        [sV (U d_5),
         sV (U d_5),
         sV (U m_12),
         sA (fun g => .pointer (some ⟨g, 0, none⟩)) 4 Zr (Ar m_12),
         sS 3]
        (by kernel_rfl) RR.out.b (RowsAt.cons (RR.out.at 7 rfl) (RowsAt.cons (RR.out.at 6 rfl) (RowsAt.cons (RR.out.at 5 rfl) (RowsAt.cons (RR.out.at 4 rfl) (RowsAt.cons (RR.out.at 3 rfl) (RowsAt.cons (RR.out.at 2 rfl) (RowsAt.cons (RR.out.at 1 rfl) (RowsAt.cons (RR.out.at 0 rfl) RowsAt.nil)))))))) (StOk.of [] rfl StM.nil)
        (Obs.val (fun a' w' E => ob_loada 24 (.tmp 8) rfl (E.old 8 (by kernel_rfl)) (E.row (g := g6_4) (c := (Ar d_5)) 6 rfl) Tryd.underlying24 rfl (by kernel_rfl) rfl)
        (Obs.val (fun a' w' E => ob_loada 24 (.tmp 8) rfl (E.old 8 (by kernel_rfl)) (E.row (g := g6_4) (c := (Ar d_5)) 6 rfl) Tryd.underlying24 rfl (by kernel_rfl) rfl)
        (Obs.val (fun a' w' E => ob_fcall 36 _ _ rfl (am2 (E.new (v := (U d_5)) 61 0 (by kernel_rfl) rfl) (E.new (v := (U d_5)) 62 1 (by kernel_rfl) rfl)) (fc36 _ _) (((c11 rfl rfl : Does 36 #[(U d_5), (U d_5)] (U m_12))).out w'))
        (Obs.alloc (fun a' w' E => ob_alloc (t := 24) (by simp [opAt, execOp, go_sem]))
        (Obs.sta rfl (fun a' w' g E ha hr => ob_storea 24 (.tmp 10) (.tmp 63) rfl (ha 10 (by kernel_rfl)) (E.new (v := (U m_12)) 63 2 (by kernel_rfl) rfl) rfl hr (by kernel_rfl) (Nat.le_of_ble_eq_true rfl) (by kernel_rfl) rfl)
        Obs.nil))))) ?_
      intro bs w9 aZ haZ F
      have eZ : aZ = ({ tmps := #[(A3 x y z), (A9 u v false), (PT w.heap.size), (PT (w.heap.size + 1)), (PT (w.heap.size + 1 + 1)), (PT g3_5), (PT g4_4), (PT g5_7), (PT g6_4), (PT g7_4), (PT ((bs 3))), undef, undef, undef, undef, (PO (w.heap.size + 1) 8), (.bool false), undef, (PO w.heap.size 8), (U z), (U 0), (.bool false), undef, undef, undef, undef, undef, undef, (PO w.heap.size 8), (U z), (PO w.heap.size 8), (U z), (U m_1), (PT (w.heap.size + 1)), (U u), (U m_1), (U m_2), (PO (w.heap.size + 1) 4), (U v), (U m_1), (PO w.heap.size 8), (U z), (U m_3), (U m_4), (U m_2), (PT w.heap.size), (U x), (U d_5), (U m_4), (PO w.heap.size 4), (U y), (U d_6), (U d_5), (U 0), (.bool false), undef, undef, undef, undef, undef, undef, (U d_5), (U d_5), (U m_12), undef, undef, undef, undef, undef, undef, undef, undef, undef, undef, undef, undef, undef, undef, undef, undef, undef, undef, undef, undef, undef, undef, undef, undef, undef, undef, undef, undef, undef, undef, undef, undef, undef], defers := [] } : Act) := haZ.trans (by kernel_rfl)
      subst eZ
      clear haZ
      obtain ⟨h3, X3⟩ := F.al 3 rfl rfl
      replace RR : Hid (RB w w9 [((bs 3), (Ar m_12)), (g7_4, (Ar d_6)), (g6_4, (Ar d_5)), (g5_7, (Ar m_4)), (g4_4, (Ar m_2)), (g3_5, (Ar m_1)), (w.heap.size + 1 + 1, Z12), (w.heap.size + 1, (P9 u v false)), (w.heap.size, (T3 x y z))]) := ⟨F.bw, (RowsAt.cons X3 (RowsAt.cons (F.row 7 rfl) (RowsAt.cons (F.row 6 rfl) (RowsAt.cons (F.row 5 rfl) (RowsAt.cons (F.row 4 rfl) (RowsAt.cons (F.row 3 rfl) (RowsAt.cons (F.row 2 rfl) (RowsAt.cons (F.row 1 rfl) (RowsAt.cons (F.row 0 rfl) RowsAt.nil)))))))))⟩
      generalize bs 3 = g9_3 at *
      have k9_3_0 := Nat.lt_of_lt_of_le q0 h3
      have k9_3_1 := Nat.lt_of_lt_of_le q1 h3
      have k9_3_2 := Nat.lt_of_lt_of_le q2 h3
      have k9_3_3 := Nat.lt_of_lt_of_le q3 h3
      have k9_3_4 := Nat.lt_of_lt_of_le q4 h3
      have k9_3_5 := Nat.lt_of_lt_of_le q5 h3
      have k9_3_6 := Nat.lt_of_lt_of_le q6 h3
      have k9_3_7 := Nat.lt_of_lt_of_le q7 h3
      clear F qT q0 q1 q2 q3 q4 q5 q6 q7 h3 X3
      go_upto_region 15 with fail
      obtain ⟨q8, q7, q6, q5, q4, q3, q2, q1, q0, qT⟩ := RR.out.r.lts
      refine wp_region_told (by kernel_rfl) (by kernel_rfl) (by kernel_rfl) [(w.heap.size, (T3 x y z)), (w.heap.size + 1, (P9 u v false)), (w.heap.size + 1 + 1, Z12), (g3_5, (Ar m_1)), (g4_4, (Ar m_2)), (g5_7, (Ar m_4)), (g6_4, (Ar d_5)), (g7_4, (Ar d_6)), (g9_3, (Ar m_12))]
        [sV (U m_12),
         sV (U d_5),
         sV (U m_13),
         sA (fun g => .pointer (some ⟨g, 0, none⟩)) 4 Zr (Ar m_13),
         sS 3]
        (by kernel_rfl) RR.out.b (RowsAt.cons (RR.out.at 8 rfl) (RowsAt.cons (RR.out.at 7 rfl) (RowsAt.cons (RR.out.at 6 rfl) (RowsAt.cons (RR.out.at 5 rfl) (RowsAt.cons (RR.out.at 4 rfl) (RowsAt.cons (RR.out.at 3 rfl) (RowsAt.cons (RR.out.at 2 rfl) (RowsAt.cons (RR.out.at 1 rfl) (RowsAt.cons (RR.out.at 0 rfl) RowsAt.nil))))))))) (StOk.of [] rfl StM.nil)
        (Obs.val (fun a' w' E => ob_loada 24 (.tmp 10) rfl (E.old 10 (by kernel_rfl)) (E.row (g := g9_3) (c := (Ar m_12)) 8 rfl) Tryd.underlying24 rfl (by kernel_rfl) rfl)
        (Obs.val (fun a' w' E => ob_loada 24 (.tmp 8) rfl (E.old 8 (by kernel_rfl)) (E.row (g := g6_4) (c := (Ar d_5)) 6 rfl) Tryd.underlying24 rfl (by kernel_rfl) rfl)
        (Obs.val (fun a' w' E => ob_fcall 36 _ _ rfl (am2 (E.new (v := (U m_12)) 64 0 (by kernel_rfl) rfl) (E.new (v := (U d_5)) 65 1 (by kernel_rfl) rfl)) (fc36 _ _) (((c12 rfl rfl : Does 36 #[(U m_12), (U d_5)] (U m_13))).out w'))
        (Obs.alloc (fun a' w' E => ob_alloc (t := 24) (by simp [opAt, execOp, go_sem]))
        (Obs.sta rfl (fun a' w' g E ha hr => ob_storea 24 (.tmp 11) (.tmp 66) rfl (ha 11 (by kernel_rfl)) (E.new (v := (U m_13)) 66 2 (by kernel_rfl) rfl) rfl hr (by kernel_rfl) (Nat.le_of_ble_eq_true rfl) (by kernel_rfl) rfl)
        Obs.nil))))) ?_
      intro bs w10 aZ haZ F
      have eZ : aZ = ({ tmps := #[(A3 x y z), (A9 u v false), (PT w.heap.size), (PT (w.heap.size + 1)), (PT (w.heap.size + 1 + 1)), (PT g3_5), (PT g4_4), (PT g5_7), (PT g6_4), (PT g7_4), (PT g9_3), (PT ((bs 3))), undef, undef, undef, (PO (w.heap.size + 1) 8), (.bool false), undef, (PO w.heap.size 8), (U z), (U 0), (.bool false), undef, undef, undef, undef, undef, undef, (PO w.heap.size 8), (U z), (PO w.heap.size 8), (U z), (U m_1), (PT (w.heap.size + 1)), (U u), (U m_1), (U m_2), (PO (w.heap.size + 1) 4), (U v), (U m_1), (PO w.heap.size 8), (U z), (U m_3), (U m_4), (U m_2), (PT w.heap.size), (U x), (U d_5), (U m_4), (PO w.heap.size 4), (U y), (U d_6), (U d_5), (U 0), (.bool false), undef, undef, undef, undef, undef, undef, (U d_5), (U d_5), (U m_12), (U m_12), (U d_5), (U m_13), undef, undef, undef, undef, undef, undef, undef, undef, undef, undef, undef, undef, undef, undef, undef, undef, undef, undef, undef, undef, undef, undef, undef, undef, undef, undef, undef, undef, undef, undef], defers := [] } : Act) := haZ.trans (by kernel_rfl)
      subst eZ
      clear haZ
      obtain ⟨h3, X3⟩ := F.al 3 rfl rfl
      replace RR : Hid (RB w w10 [((bs 3), (Ar m_13)), (g9_3, (Ar m_12)), (g7_4, (Ar d_6)), (g6_4, (Ar d_5)), (g5_7, (Ar m_4)), (g4_4, (Ar m_2)), (g3_5, (Ar m_1)), (w.heap.size + 1 + 1, Z12), (w.heap.size + 1, (P9 u v false)), (w.heap.size, (T3 x y z))]) := ⟨F.bw, (RowsAt.cons X3 (RowsAt.cons (F.row 8 rfl) (RowsAt.cons (F.row 7 rfl) (RowsAt.cons (F.row 6 rfl) (RowsAt.cons (F.row 5 rfl) (RowsAt.cons (F.row 4 rfl) (RowsAt.cons (F.row 3 rfl) (RowsAt.cons (F.row 2 rfl) (RowsAt.cons (F.row 1 rfl) (RowsAt.cons (F.row 0 rfl) RowsAt.nil))))))))))⟩
      generalize bs 3 = g10_3 at *
      have k10_3_0 := Nat.lt_of_lt_of_le q0 h3
      have k10_3_1 := Nat.lt_of_lt_of_le q1 h3
      have k10_3_2 := Nat.lt_of_lt_of_le q2 h3
      have k10_3_3 := Nat.lt_of_lt_of_le q3 h3
      have k10_3_4 := Nat.lt_of_lt_of_le q4 h3
      have k10_3_5 := Nat.lt_of_lt_of_le q5 h3
      have k10_3_6 := Nat.lt_of_lt_of_le q6 h3
      have k10_3_7 := Nat.lt_of_lt_of_le q7 h3
      have k10_3_8 := Nat.lt_of_lt_of_le q8 h3
      clear F qT q0 q1 q2 q3 q4 q5 q6 q7 q8 h3 X3
      go_upto_region 16 with fail
      obtain ⟨q9, q8, q7, q6, q5, q4, q3, q2, q1, q0, qT⟩ := RR.out.r.lts
      refine wp_region_told (by kernel_rfl) (by kernel_rfl) (by kernel_rfl) [(w.heap.size, (T3 x y z)), (w.heap.size + 1, (P9 u v false)), (w.heap.size + 1 + 1, Z12), (g3_5, (Ar m_1)), (g4_4, (Ar m_2)), (g5_7, (Ar m_4)), (g6_4, (Ar d_5)), (g7_4, (Ar d_6)), (g9_3, (Ar m_12)), (g10_3, (Ar m_13))]
        [sV (PT w.heap.size),
         sV (U x),
         sV (U m_12),
         sV (U m_14),
         sA (fun g => .pointer (some ⟨g, 0, none⟩)) 5 Zr (Ar m_14),
         sS 4]
        (by kernel_rfl) RR.out.b (RowsAt.cons (RR.out.at 9 rfl) (RowsAt.cons (RR.out.at 8 rfl) (RowsAt.cons (RR.out.at 7 rfl) (RowsAt.cons (RR.out.at 6 rfl) (RowsAt.cons (RR.out.at 5 rfl) (RowsAt.cons (RR.out.at 4 rfl) (RowsAt.cons (RR.out.at 3 rfl) (RowsAt.cons (RR.out.at 2 rfl) (RowsAt.cons (RR.out.at 1 rfl) (RowsAt.cons (RR.out.at 0 rfl) RowsAt.nil)))))))))) (StOk.of [] rfl StM.nil)
        (Obs.val (fun a' w' E => ob_fieldAddr 63 (.tmp 2) 0 rfl (E.old 2 (by kernel_rfl)) (fa63_0 _ _ w'))
        (Obs.val (fun a' w' E => ob_loada 24 (.tmp 67) rfl (E.new (v := (PT w.heap.size)) 67 0 (by kernel_rfl) rfl) (E.row (g := w.heap.size) (c := (T3 x y z)) 0 rfl) Tryd.underlying24 rfl (by kernel_rfl) rfl)
        (Obs.val (fun a' w' E => ob_loada 24 (.tmp 10) rfl (E.old 10 (by kernel_rfl)) (E.row (g := g9_3) (c := (Ar m_12)) 8 rfl) Tryd.underlying24 rfl (by kernel_rfl) rfl)
        (Obs.val (fun a' w' E => ob_fcall 36 _ _ rfl (am2 (E.new (v := (U x)) 68 1 (by kernel_rfl) rfl) (E.new (v := (U m_12)) 69 2 (by kernel_rfl) rfl)) (fc36 _ _) (((c13 rfl rfl : Does 36 #[(U x), (U m_12)] (U m_14))).out w'))
        (Obs.alloc (fun a' w' E => ob_alloc (t := 24) (by simp [opAt, execOp, go_sem]))
        (Obs.sta rfl (fun a' w' g E ha hr => ob_storea 24 (.tmp 12) (.tmp 70) rfl (ha 12 (by kernel_rfl)) (E.new (v := (U m_14)) 70 3 (by kernel_rfl) rfl) rfl hr (by kernel_rfl) (Nat.le_of_ble_eq_true rfl) (by kernel_rfl) rfl)
        Obs.nil)))))) ?_
      intro bs w11 aZ haZ F
      have eZ : aZ = ({ tmps := #[(A3 x y z), (A9 u v false), (PT w.heap.size), (PT (w.heap.size + 1)), (PT (w.heap.size + 1 + 1)), (PT g3_5), (PT g4_4), (PT g5_7), (PT g6_4), (PT g7_4), (PT g9_3), (PT g10_3), (PT ((bs 4))), undef, undef, (PO (w.heap.size + 1) 8), (.bool false), undef, (PO w.heap.size 8), (U z), (U 0), (.bool false), undef, undef, undef, undef, undef, undef, (PO w.heap.size 8), (U z), (PO w.heap.size 8), (U z), (U m_1), (PT (w.heap.size + 1)), (U u), (U m_1), (U m_2), (PO (w.heap.size + 1) 4), (U v), (U m_1), (PO w.heap.size 8), (U z), (U m_3), (U m_4), (U m_2), (PT w.heap.size), (U x), (U d_5), (U m_4), (PO w.heap.size 4), (U y), (U d_6), (U d_5), (U 0), (.bool false), undef, undef, undef, undef, undef, undef, (U d_5), (U d_5), (U m_12), (U m_12), (U d_5), (U m_13), (PT w.heap.size), (U x), (U m_12), (U m_14), undef, undef, undef, undef, undef, undef, undef, undef, undef, undef, undef, undef, undef, undef, undef, undef, undef, undef, undef, undef, undef, undef, undef, undef, undef, undef], defers := [] } : Act) := haZ.trans (by kernel_rfl)
      subst eZ
      clear haZ
      obtain ⟨h4, X4⟩ := F.al 4 rfl rfl
      replace RR : Hid (RB w w11 [((bs 4), (Ar m_14)), (g10_3, (Ar m_13)), (g9_3, (Ar m_12)), (g7_4, (Ar d_6)), (g6_4, (Ar d_5)), (g5_7, (Ar m_4)), (g4_4, (Ar m_2)), (g3_5, (Ar m_1)), (w.heap.size + 1 + 1, Z12), (w.heap.size + 1, (P9 u v false)), (w.heap.size, (T3 x y z))]) := ⟨F.bw, (RowsAt.cons X4 (RowsAt.cons (F.row 9 rfl) (RowsAt.cons (F.row 8 rfl) (RowsAt.cons (F.row 7 rfl) (RowsAt.cons (F.row 6 rfl) (RowsAt.cons (F.row 5 rfl) (RowsAt.cons (F.row 4 rfl) (RowsAt.cons (F.row 3 rfl) (RowsAt.cons (F.row 2 rfl) (RowsAt.cons (F.row 1 rfl) (RowsAt.cons (F.row 0 rfl) RowsAt.nil)))))))))))⟩
      generalize bs 4 = g11_4 at *
      have k11_4_0 := Nat.lt_of_lt_of_le q0 h4
      have k11_4_1 := Nat.lt_of_lt_of_le q1 h4
      have k11_4_2 := Nat.lt_of_lt_of_le q2 h4
      have k11_4_3 := Nat.lt_of_lt_of_le q3 h4
      have k11_4_4 := Nat.lt_of_lt_of_le q4 h4
      have k11_4_5 := Nat.lt_of_lt_of_le q5 h4
      have k11_4_6 := Nat.lt_of_lt_of_le q6 h4
      have k11_4_7 := Nat.lt_of_lt_of_le q7 h4
      have k11_4_8 := Nat.lt_of_lt_of_le q8 h4
      have k11_4_9 := Nat.lt_of_lt_of_le q9 h4
      clear F qT q0 q1 q2 q3 q4 q5 q6 q7 q8 q9 h4 X4
      go_upto_region 17 with fail
      obtain ⟨q10, q9, q8, q7, q6, q5, q4, q3, q2, q1, q0, qT⟩ := RR.out.r.lts
      refine wp_region_told (by kernel_rfl) (by kernel_rfl) (by kernel_rfl) [(w.heap.size, (T3 x y z)), (w.heap.size + 1, (P9 u v false)), (w.heap.size + 1 + 1, Z12), (g3_5, (Ar m_1)), (g4_4, (Ar m_2)), (g5_7, (Ar m_4)), (g6_4, (Ar d_5)), (g7_4, (Ar d_6)), (g9_3, (Ar m_12)), (g10_3, (Ar m_13)), (g11_4, (Ar m_14))]
        [sV (U d_6),
         sV (U d_6),
         sV (U m_15),
         sV (U m_13),
         sV (U d_16),
         sV (U m_14),
         sV (U m_14),
         sV (U a_17),
         sV (U d_18),
         sA (fun g => .pointer (some ⟨g, 0, none⟩)) 10 Zr (Ar d_18),
         sS 9]
        (by kernel_rfl) RR.out.b (RowsAt.cons (RR.out.at 10 rfl) (RowsAt.cons (RR.out.at 9 rfl) (RowsAt.cons (RR.out.at 8 rfl) (RowsAt.cons (RR.out.at 7 rfl) (RowsAt.cons (RR.out.at 6 rfl) (RowsAt.cons (RR.out.at 5 rfl) (RowsAt.cons (RR.out.at 4 rfl) (RowsAt.cons (RR.out.at 3 rfl) (RowsAt.cons (RR.out.at 2 rfl) (RowsAt.cons (RR.out.at 1 rfl) (RowsAt.cons (RR.out.at 0 rfl) RowsAt.nil))))))))))) (StOk.of [] rfl StM.nil)
        (Obs.val (fun a' w' E => ob_loada 24 (.tmp 9) rfl (E.old 9 (by kernel_rfl)) (E.row (g := g7_4) (c := (Ar d_6)) 7 rfl) Tryd.underlying24 rfl (by kernel_rfl) rfl)
        (Obs.val (fun a' w' E => ob_loada 24 (.tmp 9) rfl (E.old 9 (by kernel_rfl)) (E.row (g := g7_4) (c := (Ar d_6)) 7 rfl) Tryd.underlying24 rfl (by kernel_rfl) rfl)
        (Obs.val (fun a' w' E => ob_fcall 36 _ _ rfl (am2 (E.new (v := (U d_6)) 71 0 (by kernel_rfl) rfl) (E.new (v := (U d_6)) 72 1 (by kernel_rfl) rfl)) (fc36 _ _) (((c14 rfl rfl : Does 36 #[(U d_6), (U d_6)] (U m_15))).out w'))
        (Obs.val (fun a' w' E => ob_loada 24 (.tmp 11) rfl (E.old 11 (by kernel_rfl)) (E.row (g := g10_3) (c := (Ar m_13)) 9 rfl) Tryd.underlying24 rfl (by kernel_rfl) rfl)
        (Obs.val (fun a' w' E => ob_fcall 43 _ _ rfl (am2 (E.new (v := (U m_15)) 73 2 (by kernel_rfl) rfl) (E.new (v := (U m_13)) 74 3 (by kernel_rfl) rfl)) (fc43 _ _) (((c15 rfl rfl : Does 43 #[(U m_15), (U m_13)] (U d_16))).out w'))
        (Obs.val (fun a' w' E => ob_loada 24 (.tmp 12) rfl (E.old 12 (by kernel_rfl)) (E.row (g := g11_4) (c := (Ar m_14)) 10 rfl) Tryd.underlying24 rfl (by kernel_rfl) rfl)
        (Obs.val (fun a' w' E => ob_loada 24 (.tmp 12) rfl (E.old 12 (by kernel_rfl)) (E.row (g := g11_4) (c := (Ar m_14)) 10 rfl) Tryd.underlying24 rfl (by kernel_rfl) rfl)
        (Obs.val (fun a' w' E => ob_fcall 58 _ _ rfl (am2 (E.new (v := (U m_14)) 76 5 (by kernel_rfl) rfl) (E.new (v := (U m_14)) 77 6 (by kernel_rfl) rfl)) (fc58 _ _) (((c16 rfl rfl : Does 58 #[(U m_14), (U m_14)] (U a_17))).out w'))
        (Obs.val (fun a' w' E => ob_fcall 43 _ _ rfl (am2 (E.new (v := (U d_16)) 75 4 (by kernel_rfl) rfl) (E.new (v := (U a_17)) 78 7 (by kernel_rfl) rfl)) (fc43 _ _) (((c17 rfl rfl : Does 43 #[(U d_16), (U a_17)] (U d_18))).out w'))
        (Obs.alloc (fun a' w' E => ob_alloc (t := 24) (by simp [opAt, execOp, go_sem]))
        (Obs.sta rfl (fun a' w' g E ha hr => ob_storea 24 (.tmp 13) (.tmp 79) rfl (ha 13 (by kernel_rfl)) (E.new (v := (U d_18)) 79 8 (by kernel_rfl) rfl) rfl hr (by kernel_rfl) (Nat.le_of_ble_eq_true rfl) (by kernel_rfl) rfl)
        Obs.nil))))))))))) ?_
      intro bs w12 aZ haZ F
      have eZ : aZ = ({ tmps := #[(A3 x y z), (A9 u v false), (PT w.heap.size), (PT (w.heap.size + 1)), (PT (w.heap.size + 1 + 1)), (PT g3_5), (PT g4_4), (PT g5_7), (PT g6_4), (PT g7_4), (PT g9_3), (PT g10_3), (PT g11_4), (PT ((bs 9))), undef, (PO (w.heap.size + 1) 8), (.bool false), undef, (PO w.heap.size 8), (U z), (U 0), (.bool false), undef, undef, undef, undef, undef, undef, (PO w.heap.size 8), (U z), (PO w.heap.size 8), (U z), (U m_1), (PT (w.heap.size + 1)), (U u), (U m_1), (U m_2), (PO (w.heap.size + 1) 4), (U v), (U m_1), (PO w.heap.size 8), (U z), (U m_3), (U m_4), (U m_2), (PT w.heap.size), (U x), (U d_5), (U m_4), (PO w.heap.size 4), (U y), (U d_6), (U d_5), (U 0), (.bool false), undef, undef, undef, undef, undef, undef, (U d_5), (U d_5), (U m_12), (U m_12), (U d_5), (U m_13), (PT w.heap.size), (U x), (U m_12), (U m_14), (U d_6), (U d_6), (U m_15), (U m_13), (U d_16), (U m_14), (U m_14), (U a_17), (U d_18), undef, undef, undef, undef, undef, undef, undef, undef, undef, undef, undef, undef, undef, undef, undef, undef, undef], defers := [] } : Act) := haZ.trans (by kernel_rfl)
      subst eZ
      clear haZ
      obtain ⟨h9, X9⟩ := F.al 9 rfl rfl
      replace RR : Hid (RB w w12 [((bs 9), (Ar d_18)), (g11_4, (Ar m_14)), (g10_3, (Ar m_13)), (g9_3, (Ar m_12)), (g7_4, (Ar d_6)), (g6_4, (Ar d_5)), (g5_7, (Ar m_4)), (g4_4, (Ar m_2)), (g3_5, (Ar m_1)), (w.heap.size + 1 + 1, Z12), (w.heap.size + 1, (P9 u v false)), (w.heap.size, (T3 x y z))]) := ⟨F.bw, (RowsAt.cons X9 (RowsAt.cons (F.row 10 rfl) (RowsAt.cons (F.row 9 rfl) (RowsAt.cons (F.row 8 rfl) (RowsAt.cons (F.row 7 rfl) (RowsAt.cons (F.row 6 rfl) (RowsAt.cons (F.row 5 rfl) (RowsAt.cons (F.row 4 rfl) (RowsAt.cons (F.row 3 rfl) (RowsAt.cons (F.row 2 rfl) (RowsAt.cons (F.row 1 rfl) (RowsAt.cons (F.row 0 rfl) RowsAt.nil))))))))))))⟩
      generalize bs 9 = g12_9 at *
      have k12_9_0 := Nat.lt_of_lt_of_le q0 h9
      have k12_9_1 := Nat.lt_of_lt_of_le q1 h9
      have k12_9_2 := Nat.lt_of_lt_of_le q2 h9
      have k12_9_3 := Nat.lt_of_lt_of_le q3 h9
      have k12_9_4 := Nat.lt_of_lt_of_le q4 h9
      have k12_9_5 := Nat.lt_of_lt_of_le q5 h9
      have k12_9_6 := Nat.lt_of_lt_of_le q6 h9
      have k12_9_7 := Nat.lt_of_lt_of_le q7 h9
      have k12_9_8 := Nat.lt_of_lt_of_le q8 h9
      have k12_9_9 := Nat.lt_of_lt_of_le q9 h9
      have k12_9_10 := Nat.lt_of_lt_of_le q10 h9
      clear F qT q0 q1 q2 q3 q4 q5 q6 q7 q8 q9 q10 h9 X9
      go_upto_region 18 with fail
      obtain ⟨q11, q10, q9, q8, q7, q6, q5, q4, q3, q2, q1, q0, qT⟩ := RR.out.r.lts
      refine wp_region_told (by kernel_rfl) (by kernel_rfl) (by kernel_rfl) [(w.heap.size, (T3 x y z)), (w.heap.size + 1, (P9 u v false)), (w.heap.size + 1 + 1, Z12), (g3_5, (Ar m_1)), (g4_4, (Ar m_2)), (g5_7, (Ar m_4)), (g6_4, (Ar d_5)), (g7_4, (Ar d_6)), (g9_3, (Ar m_12)), (g10_3, (Ar m_13)), (g11_4, (Ar m_14)), (g12_9, (Ar d_18))]
        [sV (U d_6),
         sV (U m_14),
         sV (U d_18),
         sV (U d_19),
         sV (U m_20),
         sV (PO w.heap.size 4),
         sV (U y),
         sV (U m_13),
         sV (U m_21),
         sV (U d_22),
         sA (fun g => .pointer (some ⟨g, 0, none⟩)) 11 Zr (Ar d_22),
         sS 10]
        (by kernel_rfl) RR.out.b (RowsAt.cons (RR.out.at 11 rfl) (RowsAt.cons (RR.out.at 10 rfl) (RowsAt.cons (RR.out.at 9 rfl) (RowsAt.cons (RR.out.at 8 rfl) (RowsAt.cons (RR.out.at 7 rfl) (RowsAt.cons (RR.out.at 6 rfl) (RowsAt.cons (RR.out.at 5 rfl) (RowsAt.cons (RR.out.at 4 rfl) (RowsAt.cons (RR.out.at 3 rfl) (RowsAt.cons (RR.out.at 2 rfl) (RowsAt.cons (RR.out.at 1 rfl) (RowsAt.cons (RR.out.at 0 rfl) RowsAt.nil)))))))))))) (StOk.of [] rfl StM.nil)
        (Obs.val (fun a' w' E => ob_loada 24 (.tmp 9) rfl (E.old 9 (by kernel_rfl)) (E.row (g := g7_4) (c := (Ar d_6)) 7 rfl) Tryd.underlying24 rfl (by kernel_rfl) rfl)
        (Obs.val (fun a' w' E => ob_loada 24 (.tmp 12) rfl (E.old 12 (by kernel_rfl)) (E.row (g := g11_4) (c := (Ar m_14)) 10 rfl) Tryd.underlying24 rfl (by kernel_rfl) rfl)
        (Obs.val (fun a' w' E => ob_loada 24 (.tmp 13) rfl (E.old 13 (by kernel_rfl)) (E.row (g := g12_9) (c := (Ar d_18)) 11 rfl) Tryd.underlying24 rfl (by kernel_rfl) rfl)
        (Obs.val (fun a' w' E => ob_fcall 43 _ _ rfl (am2 (E.new (v := (U m_14)) 81 1 (by kernel_rfl) rfl) (E.new (v := (U d_18)) 82 2 (by kernel_rfl) rfl)) (fc43 _ _) (((c18 rfl rfl : Does 43 #[(U m_14), (U d_18)] (U d_19))).out w'))
        (Obs.val (fun a' w' E => ob_fcall 36 _ _ rfl (am2 (E.new (v := (U d_6)) 80 0 (by kernel_rfl) rfl) (E.new (v := (U d_19)) 83 3 (by kernel_rfl) rfl)) (fc36 _ _) (((c19 rfl rfl : Does 36 #[(U d_6), (U d_19)] (U m_20))).out w'))
        (Obs.val (fun a' w' E => ob_fieldAddr 63 (.tmp 2) 1 rfl (E.old 2 (by kernel_rfl)) (fa63_1 _ _ w'))
        (Obs.val (fun a' w' E => ob_loada 24 (.tmp 85) rfl (E.new (v := (PO w.heap.size 4)) 85 5 (by kernel_rfl) rfl) (E.row (g := w.heap.size) (c := (T3 x y z)) 0 rfl) Tryd.underlying24 rfl (by kernel_rfl) rfl)
        (Obs.val (fun a' w' E => ob_loada 24 (.tmp 11) rfl (E.old 11 (by kernel_rfl)) (E.row (g := g10_3) (c := (Ar m_13)) 9 rfl) Tryd.underlying24 rfl (by kernel_rfl) rfl)
        (Obs.val (fun a' w' E => ob_fcall 36 _ _ rfl (am2 (E.new (v := (U y)) 86 6 (by kernel_rfl) rfl) (E.new (v := (U m_13)) 87 7 (by kernel_rfl) rfl)) (fc36 _ _) (((c20 rfl rfl : Does 36 #[(U y), (U m_13)] (U m_21))).out w'))
        (Obs.val (fun a' w' E => ob_fcall 43 _ _ rfl (am2 (E.new (v := (U m_20)) 84 4 (by kernel_rfl) rfl) (E.new (v := (U m_21)) 88 8 (by kernel_rfl) rfl)) (fc43 _ _) (((c21 rfl rfl : Does 43 #[(U m_20), (U m_21)] (U d_22))).out w'))
        (Obs.alloc (fun a' w' E => ob_alloc (t := 24) (by simp [opAt, execOp, go_sem]))
        (Obs.sta rfl (fun a' w' g E ha hr => ob_storea 24 (.tmp 14) (.tmp 89) rfl (ha 14 (by kernel_rfl)) (E.new (v := (U d_22)) 89 9 (by kernel_rfl) rfl) rfl hr (by kernel_rfl) (Nat.le_of_ble_eq_true rfl) (by kernel_rfl) rfl)
        Obs.nil)))))))))))) ?_
      intro bs w13 aZ haZ F
      have eZ : aZ = ({ tmps := #[(A3 x y z), (A9 u v false), (PT w.heap.size), (PT (w.heap.size + 1)), (PT (w.heap.size + 1 + 1)), (PT g3_5), (PT g4_4), (PT g5_7), (PT g6_4), (PT g7_4), (PT g9_3), (PT g10_3), (PT g11_4), (PT g12_9), (PT ((bs 10))), (PO (w.heap.size + 1) 8), (.bool false), undef, (PO w.heap.size 8), (U z), (U 0), (.bool false), undef, undef, undef, undef, undef, undef, (PO w.heap.size 8), (U z), (PO w.heap.size 8), (U z), (U m_1), (PT (w.heap.size + 1)), (U u), (U m_1), (U m_2), (PO (w.heap.size + 1) 4), (U v), (U m_1), (PO w.heap.size 8), (U z), (U m_3), (U m_4), (U m_2), (PT w.heap.size), (U x), (U d_5), (U m_4), (PO w.heap.size 4), (U y), (U d_6), (U d_5), (U 0), (.bool false), undef, undef, undef, undef, undef, undef, (U d_5), (U d_5), (U m_12), (U m_12), (U d_5), (U m_13), (PT w.heap.size), (U x), (U m_12), (U m_14), (U d_6), (U d_6), (U m_15), (U m_13), (U d_16), (U m_14), (U m_14), (U a_17), (U d_18), (U d_6), (U m_14), (U d_18), (U d_19), (U m_20), (PO w.heap.size 4), (U y), (U m_13), (U m_21), (U d_22), undef, undef, undef, undef, undef, undef, undef], defers := [] } : Act) := haZ.trans (by kernel_rfl)
      subst eZ
      clear haZ
      obtain ⟨h10, X10⟩ := F.al 10 rfl rfl
      replace RR : Hid (RB w w13 [((bs 10), (Ar d_22)), (g12_9, (Ar d_18)), (g11_4, (Ar m_14)), (g10_3, (Ar m_13)), (g9_3, (Ar m_12)), (g7_4, (Ar d_6)), (g6_4, (Ar d_5)), (g5_7, (Ar m_4)), (g4_4, (Ar m_2)), (g3_5, (Ar m_1)), (w.heap.size + 1 + 1, Z12), (w.heap.size + 1, (P9 u v false)), (w.heap.size, (T3 x y z))]) := ⟨F.bw, (RowsAt.cons X10 (RowsAt.cons (F.row 11 rfl) (RowsAt.cons (F.row 10 rfl) (RowsAt.cons (F.row 9 rfl) (RowsAt.cons (F.row 8 rfl) (RowsAt.cons (F.row 7 rfl) (RowsAt.cons (F.row 6 rfl) (RowsAt.cons (F.row 5 rfl) (RowsAt.cons (F.row 4 rfl) (RowsAt.cons (F.row 3 rfl) (RowsAt.cons (F.row 2 rfl) (RowsAt.cons (F.row 1 rfl) (RowsAt.cons (F.row 0 rfl) RowsAt.nil)))))))))))))⟩
      generalize bs 10 = g13_10 at *
      have k13_10_0 := Nat.lt_of_lt_of_le q0 h10
      have k13_10_1 := Nat.lt_of_lt_of_le q1 h10
      have k13_10_2 := Nat.lt_of_lt_of_le q2 h10
      have k13_10_3 := Nat.lt_of_lt_of_le q3 h10
      have k13_10_4 := Nat.lt_of_lt_of_le q4 h10
      have k13_10_5 := Nat.lt_of_lt_of_le q5 h10
      have k13_10_6 := Nat.lt_of_lt_of_le q6 h10
      have k13_10_7 := Nat.lt_of_lt_of_le q7 h10
      have k13_10_8 := Nat.lt_of_lt_of_le q8 h10
      have k13_10_9 := Nat.lt_of_lt_of_le q9 h10
      have k13_10_10 := Nat.lt_of_lt_of_le q10 h10
      have k13_10_11 := Nat.lt_of_lt_of_le q11 h10
      clear F qT q0 q1 q2 q3 q4 q5 q6 q7 q8 q9 q10 q11 h10 X10
      go_upto_region 19 with fail
      obtain ⟨q12, q11, q10, q9, q8, q7, q6, q5, q4, q3, q2, q1, q0, qT⟩ := RR.out.r.lts
      refine wp_region_told (by kernel_rfl) (by kernel_rfl) (by kernel_rfl) [(w.heap.size, (T3 x y z)), (w.heap.size + 1, (P9 u v false)), (g3_5, (Ar m_1)), (g4_4, (Ar m_2)), (g5_7, (Ar m_4)), (g6_4, (Ar d_5)), (g7_4, (Ar d_6)), (g9_3, (Ar m_12)), (g10_3, (Ar m_13)), (g11_4, (Ar m_14)), (g12_9, (Ar d_18)), (g13_10, (Ar d_22))]
        [sV (U d_18),
         sV (U d_22),
         sV (PO w.heap.size 8),
         sV (U z),
         sV (U d_5),
         sV (U m_23),
         sV (A3 d_18 d_22 m_23),
         sK (w.heap.size + 1 + 1) Z12 (T3 d_18 d_22 m_23)]
        (by kernel_rfl) RR.out.b (RowsAt.cons (RR.out.at 12 rfl) (RowsAt.cons (RR.out.at 11 rfl) (RowsAt.cons (RR.out.at 9 rfl) (RowsAt.cons (RR.out.at 8 rfl) (RowsAt.cons (RR.out.at 7 rfl) (RowsAt.cons (RR.out.at 6 rfl) (RowsAt.cons (RR.out.at 5 rfl) (RowsAt.cons (RR.out.at 4 rfl) (RowsAt.cons (RR.out.at 3 rfl) (RowsAt.cons (RR.out.at 2 rfl) (RowsAt.cons (RR.out.at 1 rfl) (RowsAt.cons (RR.out.at 0 rfl) RowsAt.nil)))))))))))) (StOk.of [(w.heap.size + 1 + 1, Z12)] rfl (StM.cons (RR.out.at 10 rfl) (by omega) (Apart.cons (by omega) (Apart.cons (by omega) (Apart.cons (by omega) (Apart.cons (by omega) (Apart.cons (by omega) (Apart.cons (by omega) (Apart.cons (by omega) (Apart.cons (by omega) (Apart.cons (by omega) (Apart.cons (by omega) (Apart.cons (by omega) (Apart.cons (by omega) Apart.nil)))))))))))) Apart.nil StM.nil))
        (Obs.val (fun a' w' E => ob_loada 24 (.tmp 13) rfl (E.old 13 (by kernel_rfl)) (E.row (g := g12_9) (c := (Ar d_18)) 10 rfl) Tryd.underlying24 rfl (by kernel_rfl) rfl)
        (Obs.val (fun a' w' E => ob_loada 24 (.tmp 14) rfl (E.old 14 (by kernel_rfl)) (E.row (g := g13_10) (c := (Ar d_22)) 11 rfl) Tryd.underlying24 rfl (by kernel_rfl) rfl)
        (Obs.val (fun a' w' E => ob_fieldAddr 63 (.tmp 2) 2 rfl (E.old 2 (by kernel_rfl)) (fa63_2 _ _ w'))
        (Obs.val (fun a' w' E => ob_loada 24 (.tmp 92) rfl (E.new (v := (PO w.heap.size 8)) 92 2 (by kernel_rfl) rfl) (E.row (g := w.heap.size) (c := (T3 x y z)) 0 rfl) Tryd.underlying24 rfl (by kernel_rfl) rfl)
        (Obs.val (fun a' w' E => ob_loada 24 (.tmp 8) rfl (E.old 8 (by kernel_rfl)) (E.row (g := g6_4) (c := (Ar d_5)) 5 rfl) Tryd.underlying24 rfl (by kernel_rfl) rfl)
        (Obs.val (fun a' w' E => ob_fcall 36 _ _ rfl (am2 (E.new (v := (U z)) 93 3 (by kernel_rfl) rfl) (E.new (v := (U d_5)) 94 4 (by kernel_rfl) rfl)) (fc36 _ _) (((c22 rfl rfl : Does 36 #[(U z), (U d_5)] (U m_23))).out w'))
        (Obs.val (fun a' w' E => ob_build 63 _ rfl (pm3 (E.new (v := (U d_18)) 90 0 (by kernel_rfl) rfl) (E.new (v := (U d_22)) 91 1 (by kernel_rfl) rfl) (E.new (v := (U m_23)) 95 5 (by kernel_rfl) rfl)) (bd63_0U_1U_2U _ _ _ w'))
        (Obs.stk (fun a' w' E hr => ob_storea 63 (.tmp 4) (.tmp 96) rfl (E.old 4 (by kernel_rfl)) (E.new (v := (A3 d_18 d_22 m_23)) 96 6 (by kernel_rfl) rfl) rfl hr (by kernel_rfl) (Nat.le_of_ble_eq_true rfl) (by kernel_rfl) rfl)
        Obs.nil)))))))) ?_
      intro bs w14 aZ haZ F
      have eZ : aZ = ({ tmps := #[(A3 x y z), (A9 u v false), (PT w.heap.size), (PT (w.heap.size + 1)), (PT (w.heap.size + 1 + 1)), (PT g3_5), (PT g4_4), (PT g5_7), (PT g6_4), (PT g7_4), (PT g9_3), (PT g10_3), (PT g11_4), (PT g12_9), (PT g13_10), (PO (w.heap.size + 1) 8), (.bool false), undef, (PO w.heap.size 8), (U z), (U 0), (.bool false), undef, undef, undef, undef, undef, undef, (PO w.heap.size 8), (U z), (PO w.heap.size 8), (U z), (U m_1), (PT (w.heap.size + 1)), (U u), (U m_1), (U m_2), (PO (w.heap.size + 1) 4), (U v), (U m_1), (PO w.heap.size 8), (U z), (U m_3), (U m_4), (U m_2), (PT w.heap.size), (U x), (U d_5), (U m_4), (PO w.heap.size 4), (U y), (U d_6), (U d_5), (U 0), (.bool false), undef, undef, undef, undef, undef, undef, (U d_5), (U d_5), (U m_12), (U m_12), (U d_5), (U m_13), (PT w.heap.size), (U x), (U m_12), (U m_14), (U d_6), (U d_6), (U m_15), (U m_13), (U d_16), (U m_14), (U m_14), (U a_17), (U d_18), (U d_6), (U m_14), (U d_18), (U d_19), (U m_20), (PO w.heap.size 4), (U y), (U m_13), (U m_21), (U d_22), (U d_18), (U d_22), (PO w.heap.size 8), (U z), (U d_5), (U m_23), (A3 d_18 d_22 m_23)], defers := [] } : Act) := haZ.trans (by kernel_rfl)
      subst eZ
      clear haZ
      replace RR : Hid (RB w w14 [(g13_10, (Ar d_22)), (g12_9, (Ar d_18)), (g11_4, (Ar m_14)), (g10_3, (Ar m_13)), (g9_3, (Ar m_12)), (g7_4, (Ar d_6)), (g6_4, (Ar d_5)), (g5_7, (Ar m_4)), (g4_4, (Ar m_2)), (g3_5, (Ar m_1)), (w.heap.size + 1 + 1, (T3 d_18 d_22 m_23)), (w.heap.size + 1, (P9 u v false)), (w.heap.size, (T3 x y z))]) := ⟨F.bw, (RowsAt.cons (F.row 11 rfl) (RowsAt.cons (F.row 10 rfl) (RowsAt.cons (F.row 9 rfl) (RowsAt.cons (F.row 8 rfl) (RowsAt.cons (F.row 7 rfl) (RowsAt.cons (F.row 6 rfl) (RowsAt.cons (F.row 5 rfl) (RowsAt.cons (F.row 4 rfl) (RowsAt.cons (F.row 3 rfl) (RowsAt.cons (F.row 2 rfl) (RowsAt.cons (F.sk 7 rfl) (RowsAt.cons (F.row 1 rfl) (RowsAt.cons (F.row 0 rfl) RowsAt.nil)))))))))))))⟩
      clear F qT q0 q1 q2 q3 q4 q5 q6 q7 q8 q9 q10 q11 q12
      go_wp2
      exact bodyPost_ret (v := (A3 d_18 d_22 m_23)) (resA (p := 4) (ty := 63) rfl (g := w.heap.size + 1 + 1) rfl (RR.out.at 10 rfl) Tryd.underlying63 rfl (by kernel_rfl)) rfl ⟨rfl, RR.out.b⟩
set_option maxRecDepth 100000 in
set_option maxHeartbeats 4000000 in
theorem flat_raw (x y z : Nat) {p_1 s_2 w_4 m_5 m_6 m_7 m_8 : Nat} {r_0 q_3 : Bool}
    (e1 : ∀ w, (Op.equalIn 10000 24 (U z) (U 0)).run Tryd.prog w = .ok r_0 w)
    (c2 : r_0 = false → Does 35 #[] (U p_1))
    (c3 : r_0 = false → Does 19 #[(U p_1), (U 2)] (.tuple #[(U s_2), (.bool q_3)]))
    (c4 : r_0 = false → Does 64 #[(U z), (U s_2)] (U w_4))
    (c5 : r_0 = false → Does 36 #[(U w_4), (U w_4)] (U m_5))
    (c6 : r_0 = false → Does 36 #[(U x), (U m_5)] (U m_6))
    (c7 : r_0 = false → Does 36 #[(U m_5), (U w_4)] (U m_7))
    (c8 : r_0 = false → Does 36 #[(U y), (U m_7)] (U m_8))
    (w : World) : Calls Tryd.prog 45 #[(A3 x y z)] w fun e w' => e = .returned (cond r_0 (A9 0 0 true) (A9 m_6 m_8 false)) ∧ Below w.heap.size w w' := by
  go_enter Tryd.func45, Tryd.ntmps45
  go_upto_region 1 with fail
  refine name_world _ ?_
  intro wF hF0
  have RR : Hid (RB w wF [(w.heap.size + 1, Z9), (w.heap.size, (T3 x y z))]) := by rw [hF0]; exact (rbN (rbN (rb0 w) (by simp)) (by simp))
  clear hF0
  obtain ⟨q1, q0, qT⟩ := RR.out.r.lts
  refine wp_region_told (by kernel_rfl) (by kernel_rfl) (by kernel_rfl) [(w.heap.size, (T3 x y z)), (w.heap.size + 1, Z9)]
    [sV (PO w.heap.size 8),
     sV (U z),
     sV (U 0),
     sV (.bool r_0)]
    (by kernel_rfl) RR.out.b (RowsAt.cons (RR.out.at 1 rfl) (RowsAt.cons (RR.out.at 0 rfl) RowsAt.nil)) (StOk.of [] rfl StM.nil)
    (Obs.val (fun a' w' E => ob_fieldAddr 63 (.tmp 1) 2 rfl (E.old 1 (by kernel_rfl)) (fa63_2 _ _ w'))
    (Obs.val (fun a' w' E => ob_loada 24 (.tmp 7) rfl (E.new (v := (PO w.heap.size 8)) 7 0 (by kernel_rfl) rfl) (E.row (g := w.heap.size) (c := (T3 x y z)) 0 rfl) Tryd.underlying24 rfl (by kernel_rfl) rfl)
    (Obs.val (fun a' w' E => ob_build 24 _ rfl (pm0) (bd24_ w'))
    (Obs.val (fun a' w' E => ob_binOp .eql 24 (.tmp 8) (.tmp 9) 24 rfl (E.new (v := (U z)) 8 1 (by kernel_rfl) rfl) (E.new (v := (U 0)) 9 2 (by kernel_rfl) rfl) (by simp [go_sem, e1]))
    Obs.nil)))) ?_
  intro bs w1 aZ haZ F
  have eZ : aZ = ({ tmps := #[(A3 x y z), (PT w.heap.size), (PT (w.heap.size + 1)), undef, undef, undef, undef, (PO w.heap.size 8), (U z), (U 0), (.bool r_0), undef, undef, undef, undef, undef, undef, undef, undef, undef, undef, undef, undef, undef, undef, undef, undef, undef, undef, undef, undef, undef, undef, undef, undef, undef], defers := [] } : Act) := haZ.trans (by kernel_rfl)
  subst eZ
  clear haZ
  replace RR : Hid (RB w w1 [(w.heap.size + 1, Z9), (w.heap.size, (T3 x y z))]) := ⟨F.bw, (RowsAt.cons (F.row 1 rfl) (RowsAt.cons (F.row 0 rfl) RowsAt.nil))⟩
  clear F qT q0 q1
  clear wF
  cases r_0 with
  | true =>
    go_upto_region 2 with fail
    obtain ⟨q1, q0, qT⟩ := RR.out.r.lts
    refine wp_region_told (by kernel_rfl) (by kernel_rfl) (by kernel_rfl) [(w.heap.size, (T3 x y z))]
      [sV (A9 0 0 true),
       sK (w.heap.size + 1) Z9 (P9 0 0 true)]
      (by kernel_rfl) RR.out.b (RowsAt.cons (RR.out.at 1 rfl) RowsAt.nil) (StOk.of [(w.heap.size + 1, Z9)] rfl (StM.cons (RR.out.at 0 rfl) (by omega) (Apart.cons (by omega) Apart.nil) Apart.nil StM.nil))
      (Obs.val (fun a' w' E => ob_build 26 _ rfl (pm1 (evc a' (.bool true))) (bd26_2b _ w'))
      (Obs.stk (fun a' w' E hr => ob_storea 26 (.tmp 2) (.tmp 11) rfl (E.old 2 (by kernel_rfl)) (E.new (v := (A9 0 0 true)) 11 0 (by kernel_rfl) rfl) rfl hr (by kernel_rfl) (Nat.le_of_ble_eq_true rfl) (by kernel_rfl) rfl)
      Obs.nil)) ?_
    intro bs w2 aZ haZ F
    have eZ : aZ = ({ tmps := #[(A3 x y z), (PT w.heap.size), (PT (w.heap.size + 1)), undef, undef, undef, undef, (PO w.heap.size 8), (U z), (U 0), (.bool true), (A9 0 0 true), undef, undef, undef, undef, undef, undef, undef, undef, undef, undef, undef, undef, undef, undef, undef, undef, undef, undef, undef, undef, undef, undef, undef, undef], defers := [] } : Act) := haZ.trans (by kernel_rfl)
    subst eZ
    clear haZ
    replace RR : Hid (RB w w2 [(w.heap.size + 1, (P9 0 0 true)), (w.heap.size, (T3 x y z))]) := ⟨F.bw, (RowsAt.cons (F.sk 1 rfl) (RowsAt.cons (F.row 0 rfl) RowsAt.nil))⟩
    clear F qT q0 q1
    go_wp2
    exact bodyPost_ret (v := (A9 0 0 true)) (resA (p := 2) (ty := 26) rfl (g := w.heap.size + 1) rfl (RR.out.at 0 rfl) Tryd.underlying26 rfl (by kernel_rfl)) rfl ⟨rfl, RR.out.b⟩
  | false =>
    go_upto_region 3 with fail
    obtain ⟨q1, q0, qT⟩ := RR.out.r.lts
    refine wp_region_told (by kernel_rfl) (by kernel_rfl) (by kernel_rfl) [(w.heap.size, (T3 x y z)), (w.heap.size + 1, Z9)]
      [sV (U p_1),
       sV (U 2),
       sV (.tuple #[(U s_2), (.bool q_3)]),
       sV (.tuple #[(U s_2), (.bool q_3)]),
       sV (U s_2),
       sV (.bool q_3),
       sA (fun g => .pointer (some ⟨g, 0, none⟩)) 7 Zr (Ar s_2),
       sS 6,
       sV (.bool q_3)]
      (by kernel_rfl) RR.out.b (RowsAt.cons (RR.out.at 1 rfl) (RowsAt.cons (RR.out.at 0 rfl) RowsAt.nil)) (StOk.of [] rfl StM.nil)
      (Obs.val (fun a' w' E => ob_fcall 35 _ _ rfl (am0) (fc35 _ _) (((c2 rfl : Does 35 #[] (U p_1))).out w'))
      (Obs.val (fun a' w' E => ob_build 24 _ rfl (pm4 (evc a' (.int .u64 2)) (evc a' (.int .u64 0)) (evc a' (.int .u64 0)) (evc a' (.int .u64 0))) (bdk2 w'))
      (Obs.val (fun a' w' E => ob_fcall 19 _ _ rfl (am2 (E.new (v := (U p_1)) 13 0 (by kernel_rfl) rfl) (E.new (v := (U 2)) 14 1 (by kernel_rfl) rfl)) (fc19 _ _) (((c3 rfl : Does 19 #[(U p_1), (U 2)] (.tuple #[(U s_2), (.bool q_3)]))).out w'))
      (Obs.val (fun a' w' E => ob_move (.tmp 15) rfl (E.new (v := (.tuple #[(U s_2), (.bool q_3)])) 15 2 (by kernel_rfl) rfl))
      (Obs.val (fun a' w' E => ob_extract (.tmp 12) 0 rfl (E.new (v := (.tuple #[(U s_2), (.bool q_3)])) 12 3 (by kernel_rfl) rfl) rfl)
      (Obs.val (fun a' w' E => ob_extract (.tmp 12) 1 rfl (E.new (v := (.tuple #[(U s_2), (.bool q_3)])) 12 3 (by kernel_rfl) rfl) rfl)
      (Obs.alloc (fun a' w' E => ob_alloc (t := 24) (by simp [opAt, execOp, go_sem]))
      (Obs.sta rfl (fun a' w' g E ha hr => ob_storea 24 (.tmp 3) (.tmp 16) rfl (ha 3 (by kernel_rfl)) (E.new (v := (U s_2)) 16 4 (by kernel_rfl) rfl) rfl hr (by kernel_rfl) (Nat.le_of_ble_eq_true rfl) (by kernel_rfl) rfl)
      (Obs.val (fun a' w' E => ob_assign (.tmp 17) rfl (E.new (v := (.bool q_3)) 17 5 (by kernel_rfl) rfl))
      Obs.nil))))))))) ?_
    intro bs w2 aZ haZ F
    have eZ : aZ = ({ tmps := #[(A3 x y z), (PT w.heap.size), (PT (w.heap.size + 1)), (PT ((bs 6))), (.bool q_3), undef, undef, (PO w.heap.size 8), (U z), (U 0), (.bool false), undef, (.tuple #[(U s_2), (.bool q_3)]), (U p_1), (U 2), (.tuple #[(U s_2), (.bool q_3)]), (U s_2), (.bool q_3), undef, undef, undef, undef, undef, undef, undef, undef, undef, undef, undef, undef, undef, undef, undef, undef, undef, undef], defers := [] } : Act) := haZ.trans (by kernel_rfl)
    subst eZ
    clear haZ
    obtain ⟨h6, X6⟩ := F.al 6 rfl rfl
    replace RR : Hid (RB w w2 [((bs 6), (Ar s_2)), (w.heap.size + 1, Z9), (w.heap.size, (T3 x y z))]) := ⟨F.bw, (RowsAt.cons X6 (RowsAt.cons (F.row 1 rfl) (RowsAt.cons (F.row 0 rfl) RowsAt.nil)))⟩
    generalize bs 6 = g2_6 at *
    have k2_6_0 := Nat.lt_of_lt_of_le q0 h6
    have k2_6_1 := Nat.lt_of_lt_of_le q1 h6
    clear F qT q0 q1 h6 X6
    go_upto_region 4 with fail
    obtain ⟨q2, q1, q0, qT⟩ := RR.out.r.lts
    refine wp_region_told (by kernel_rfl) (by kernel_rfl) (by kernel_rfl) [(w.heap.size, (T3 x y z)), (w.heap.size + 1, Z9), (g2_6, (Ar s_2))]
      [sV (PO w.heap.size 8),
       sV (U z),
       sV (U s_2),
       sV (U w_4),
       sA (fun g => .pointer (some ⟨g, 0, none⟩)) 5 Zr (Ar w_4),
       sS 4]
      (by kernel_rfl) RR.out.b (RowsAt.cons (RR.out.at 2 rfl) (RowsAt.cons (RR.out.at 1 rfl) (RowsAt.cons (RR.out.at 0 rfl) RowsAt.nil))) (StOk.of [] rfl StM.nil)
      (Obs.val (fun a' w' E => ob_fieldAddr 63 (.tmp 1) 2 rfl (E.old 1 (by kernel_rfl)) (fa63_2 _ _ w'))
      (Obs.val (fun a' w' E => ob_loada 24 (.tmp 18) rfl (E.new (v := (PO w.heap.size 8)) 18 0 (by kernel_rfl) rfl) (E.row (g := w.heap.size) (c := (T3 x y z)) 0 rfl) Tryd.underlying24 rfl (by kernel_rfl) rfl)
      (Obs.val (fun a' w' E => ob_loada 24 (.tmp 3) rfl (E.old 3 (by kernel_rfl)) (E.row (g := g2_6) (c := (Ar s_2)) 2 rfl) Tryd.underlying24 rfl (by kernel_rfl) rfl)
      (Obs.val (fun a' w' E => ob_fcall 64 _ _ rfl (am2 (E.new (v := (U z)) 19 1 (by kernel_rfl) rfl) (E.new (v := (U s_2)) 20 2 (by kernel_rfl) rfl)) (fc64 _ _) (((c4 rfl : Does 64 #[(U z), (U s_2)] (U w_4))).out w'))
      (Obs.alloc (fun a' w' E => ob_alloc (t := 24) (by simp [opAt, execOp, go_sem]))
      (Obs.sta rfl (fun a' w' g E ha hr => ob_storea 24 (.tmp 5) (.tmp 21) rfl (ha 5 (by kernel_rfl)) (E.new (v := (U w_4)) 21 3 (by kernel_rfl) rfl) rfl hr (by kernel_rfl) (Nat.le_of_ble_eq_true rfl) (by kernel_rfl) rfl)
      Obs.nil)))))) ?_
    intro bs w3 aZ haZ F
    have eZ : aZ = ({ tmps := #[(A3 x y z), (PT w.heap.size), (PT (w.heap.size + 1)), (PT g2_6), (.bool q_3), (PT ((bs 4))), undef, (PO w.heap.size 8), (U z), (U 0), (.bool false), undef, (.tuple #[(U s_2), (.bool q_3)]), (U p_1), (U 2), (.tuple #[(U s_2), (.bool q_3)]), (U s_2), (.bool q_3), (PO w.heap.size 8), (U z), (U s_2), (U w_4), undef, undef, undef, undef, undef, undef, undef, undef, undef, undef, undef, undef, undef, undef], defers := [] } : Act) := haZ.trans (by kernel_rfl)
    subst eZ
    clear haZ
    obtain ⟨h4, X4⟩ := F.al 4 rfl rfl
    replace RR : Hid (RB w w3 [((bs 4), (Ar w_4)), (g2_6, (Ar s_2)), (w.heap.size + 1, Z9), (w.heap.size, (T3 x y z))]) := ⟨F.bw, (RowsAt.cons X4 (RowsAt.cons (F.row 2 rfl) (RowsAt.cons (F.row 1 rfl) (RowsAt.cons (F.row 0 rfl) RowsAt.nil))))⟩
    generalize bs 4 = g3_4 at *
    have k3_4_0 := Nat.lt_of_lt_of_le q0 h4
    have k3_4_1 := Nat.lt_of_lt_of_le q1 h4
    have k3_4_2 := Nat.lt_of_lt_of_le q2 h4
    clear F qT q0 q1 q2 h4 X4
    go_upto_region 5 with fail
    obtain ⟨q3, q2, q1, q0, qT⟩ := RR.out.r.lts
    refine wp_region_told (by kernel_rfl) (by kernel_rfl) (by kernel_rfl) [(w.heap.size, (T3 x y z)), (w.heap.size + 1, Z9), (g2_6, (Ar s_2)), (g3_4, (Ar w_4))]
      [sV (U w_4),
       sV (U w_4),
       sV (U m_5),
       sA (fun g => .pointer (some ⟨g, 0, none⟩)) 4 Zr (Ar m_5),
       sS 3]
      (by kernel_rfl) RR.out.b (RowsAt.cons (RR.out.at 3 rfl) (RowsAt.cons (RR.out.at 2 rfl) (RowsAt.cons (RR.out.at 1 rfl) (RowsAt.cons (RR.out.at 0 rfl) RowsAt.nil)))) (StOk.of [] rfl StM.nil)
      (Obs.val (fun a' w' E => ob_loada 24 (.tmp 5) rfl (E.old 5 (by kernel_rfl)) (E.row (g := g3_4) (c := (Ar w_4)) 3 rfl) Tryd.underlying24 rfl (by kernel_rfl) rfl)
      (Obs.val (fun a' w' E => ob_loada 24 (.tmp 5) rfl (E.old 5 (by kernel_rfl)) (E.row (g := g3_4) (c := (Ar w_4)) 3 rfl) Tryd.underlying24 rfl (by kernel_rfl) rfl)
      (Obs.val (fun a' w' E => ob_fcall 36 _ _ rfl (am2 (E.new (v := (U w_4)) 22 0 (by kernel_rfl) rfl) (E.new (v := (U w_4)) 23 1 (by kernel_rfl) rfl)) (fc36 _ _) (((c5 rfl : Does 36 #[(U w_4), (U w_4)] (U m_5))).out w'))
      (Obs.alloc (fun a' w' E => ob_alloc (t := 24) (by simp [opAt, execOp, go_sem]))
      (Obs.sta rfl (fun a' w' g E ha hr => ob_storea 24 (.tmp 6) (.tmp 24) rfl (ha 6 (by kernel_rfl)) (E.new (v := (U m_5)) 24 2 (by kernel_rfl) rfl) rfl hr (by kernel_rfl) (Nat.le_of_ble_eq_true rfl) (by kernel_rfl) rfl)
      Obs.nil))))) ?_
    intro bs w4 aZ haZ F
    have eZ : aZ = ({ tmps := #[(A3 x y z), (PT w.heap.size), (PT (w.heap.size + 1)), (PT g2_6), (.bool q_3), (PT g3_4), (PT ((bs 3))), (PO w.heap.size 8), (U z), (U 0), (.bool false), undef, (.tuple #[(U s_2), (.bool q_3)]), (U p_1), (U 2), (.tuple #[(U s_2), (.bool q_3)]), (U s_2), (.bool q_3), (PO w.heap.size 8), (U z), (U s_2), (U w_4), (U w_4), (U w_4), (U m_5), undef, undef, undef, undef, undef, undef, undef, undef, undef, undef, undef], defers := [] } : Act) := haZ.trans (by kernel_rfl)
    subst eZ
    clear haZ
    obtain ⟨h3, X3⟩ := F.al 3 rfl rfl
    replace RR : Hid (RB w w4 [((bs 3), (Ar m_5)), (g3_4, (Ar w_4)), (g2_6, (Ar s_2)), (w.heap.size + 1, Z9), (w.heap.size, (T3 x y z))]) := ⟨F.bw, (RowsAt.cons X3 (RowsAt.cons (F.row 3 rfl) (RowsAt.cons (F.row 2 rfl) (RowsAt.cons (F.row 1 rfl) (RowsAt.cons (F.row 0 rfl) RowsAt.nil)))))⟩
    generalize bs 3 = g4_3 at *
    have k4_3_0 := Nat.lt_of_lt_of_le q0 h3
    have k4_3_1 := Nat.lt_of_lt_of_le q1 h3
    have k4_3_2 := Nat.lt_of_lt_of_le q2 h3
    have k4_3_3 := Nat.lt_of_lt_of_le q3 h3
    clear F qT q0 q1 q2 q3 h3 X3
    go_upto_region 6 with fail
    obtain ⟨q4, q3, q2, q1, q0, qT⟩ := RR.out.r.lts
    refine wp_region_told (by kernel_rfl) (by kernel_rfl) (by kernel_rfl) [(w.heap.size, (T3 x y z)), (g2_6, (Ar s_2)), (g3_4, (Ar w_4)), (g4_3, (Ar m_5))]
      [sV (PT w.heap.size),
       sV (U x),
       sV (U m_5),
       sV (U m_6),
       sV (PO w.heap.size 4),
       sV (U y),
       sV (U m_5),
       sV (U w_4),
       sV (U m_7),
       sV (U m_8),
       sV (A9 m_6 m_8 false),
       sK (w.heap.size + 1) Z9 (P9 m_6 m_8 false)]
      (by kernel_rfl) RR.out.b (RowsAt.cons (RR.out.at 4 rfl) (RowsAt.cons (RR.out.at 2 rfl) (RowsAt.cons (RR.out.at 1 rfl) (RowsAt.cons (RR.out.at 0 rfl) RowsAt.nil)))) (StOk.of [(w.heap.size + 1, Z9)] rfl (StM.cons (RR.out.at 3 rfl) (by omega) (Apart.cons (by omega) (Apart.cons (by omega) (Apart.cons (by omega) (Apart.cons (by omega) Apart.nil)))) Apart.nil StM.nil))
      (Obs.val (fun a' w' E => ob_fieldAddr 63 (.tmp 1) 0 rfl (E.old 1 (by kernel_rfl)) (fa63_0 _ _ w'))
      (Obs.val (fun a' w' E => ob_loada 24 (.tmp 25) rfl (E.new (v := (PT w.heap.size)) 25 0 (by kernel_rfl) rfl) (E.row (g := w.heap.size) (c := (T3 x y z)) 0 rfl) Tryd.underlying24 rfl (by kernel_rfl) rfl)
      (Obs.val (fun a' w' E => ob_loada 24 (.tmp 6) rfl (E.old 6 (by kernel_rfl)) (E.row (g := g4_3) (c := (Ar m_5)) 3 rfl) Tryd.underlying24 rfl (by kernel_rfl) rfl)
      (Obs.val (fun a' w' E => ob_fcall 36 _ _ rfl (am2 (E.new (v := (U x)) 26 1 (by kernel_rfl) rfl) (E.new (v := (U m_5)) 27 2 (by kernel_rfl) rfl)) (fc36 _ _) (((c6 rfl : Does 36 #[(U x), (U m_5)] (U m_6))).out w'))
      (Obs.val (fun a' w' E => ob_fieldAddr 63 (.tmp 1) 1 rfl (E.old 1 (by kernel_rfl)) (fa63_1 _ _ w'))
      (Obs.val (fun a' w' E => ob_loada 24 (.tmp 29) rfl (E.new (v := (PO w.heap.size 4)) 29 4 (by kernel_rfl) rfl) (E.row (g := w.heap.size) (c := (T3 x y z)) 0 rfl) Tryd.underlying24 rfl (by kernel_rfl) rfl)
      (Obs.val (fun a' w' E => ob_loada 24 (.tmp 6) rfl (E.old 6 (by kernel_rfl)) (E.row (g := g4_3) (c := (Ar m_5)) 3 rfl) Tryd.underlying24 rfl (by kernel_rfl) rfl)
      (Obs.val (fun a' w' E => ob_loada 24 (.tmp 5) rfl (E.old 5 (by kernel_rfl)) (E.row (g := g3_4) (c := (Ar w_4)) 2 rfl) Tryd.underlying24 rfl (by kernel_rfl) rfl)
      (Obs.val (fun a' w' E => ob_fcall 36 _ _ rfl (am2 (E.new (v := (U m_5)) 31 6 (by kernel_rfl) rfl) (E.new (v := (U w_4)) 32 7 (by kernel_rfl) rfl)) (fc36 _ _) (((c7 rfl : Does 36 #[(U m_5), (U w_4)] (U m_7))).out w'))
      (Obs.val (fun a' w' E => ob_fcall 36 _ _ rfl (am2 (E.new (v := (U y)) 30 5 (by kernel_rfl) rfl) (E.new (v := (U m_7)) 33 8 (by kernel_rfl) rfl)) (fc36 _ _) (((c8 rfl : Does 36 #[(U y), (U m_7)] (U m_8))).out w'))
      (Obs.val (fun a' w' E => ob_build 26 _ rfl (pm2 (E.new (v := (U m_6)) 28 3 (by kernel_rfl) rfl) (E.new (v := (U m_8)) 34 9 (by kernel_rfl) rfl)) (bd26_0U_1U _ _ w'))
      (Obs.stk (fun a' w' E hr => ob_storea 26 (.tmp 2) (.tmp 35) rfl (E.old 2 (by kernel_rfl)) (E.new (v := (A9 m_6 m_8 false)) 35 10 (by kernel_rfl) rfl) rfl hr (by kernel_rfl) (Nat.le_of_ble_eq_true rfl) (by kernel_rfl) rfl)
      Obs.nil)))))))))))) ?_
    intro bs w5 aZ haZ F
    have eZ : aZ = ({ tmps := #[(A3 x y z), (PT w.heap.size), (PT (w.heap.size + 1)), (PT g2_6), (.bool q_3), (PT g3_4), (PT g4_3), (PO w.heap.size 8), (U z), (U 0), (.bool false), undef, (.tuple #[(U s_2), (.bool q_3)]), (U p_1), (U 2), (.tuple #[(U s_2), (.bool q_3)]), (U s_2), (.bool q_3), (PO w.heap.size 8), (U z), (U s_2), (U w_4), (U w_4), (U w_4), (U m_5), (PT w.heap.size), (U x), (U m_5), (U m_6), (PO w.heap.size 4), (U y), (U m_5), (U w_4), (U m_7), (U m_8), (A9 m_6 m_8 false)], defers := [] } : Act) := haZ.trans (by kernel_rfl)
    subst eZ
    clear haZ
    replace RR : Hid (RB w w5 [(g4_3, (Ar m_5)), (g3_4, (Ar w_4)), (g2_6, (Ar s_2)), (w.heap.size + 1, (P9 m_6 m_8 false)), (w.heap.size, (T3 x y z))]) := ⟨F.bw, (RowsAt.cons (F.row 3 rfl) (RowsAt.cons (F.row 2 rfl) (RowsAt.cons (F.row 1 rfl) (RowsAt.cons (F.sk 11 rfl) (RowsAt.cons (F.row 0 rfl) RowsAt.nil)))))⟩
    clear F qT q0 q1 q2 q3 q4
    go_wp2
    exact bodyPost_ret (v := (A9 m_6 m_8 false)) (resA (p := 2) (ty := 26) rfl (g := w.heap.size + 1) rfl (RR.out.at 3 rfl) Tryd.underlying26 rfl (by kernel_rfl)) rfl ⟨rfl, RR.out.b⟩
set_option maxRecDepth 100000 in
set_option maxHeartbeats 4000000 in
theorem radd_pt_raw (x1 y1 x2 y2 : Nat) (n1 n2 : Bool) {x_0 y_1 z_2 x_3 y_4 z_5 x_6 y_7 : Nat} {n_8 : Bool}
    (c1 : Does 46 #[(A3 0 0 0), (A9 x1 y1 n1)] (A3 x_0 y_1 z_2))
    (c2 : Does 46 #[(A3 x_0 y_1 z_2), (A9 x2 y2 n2)] (A3 x_3 y_4 z_5))
    (c3 : Does 45 #[(A3 x_3 y_4 z_5)] (A9 x_6 y_7 n_8))
    (w : World) : Calls Tryd.prog 24 #[(A9 x1 y1 n1), (A9 x2 y2 n2)] w fun e w' => e = .returned (A9 x_6 y_7 n_8) ∧ Below w.heap.size w w' := by
  go_enter Tryd.func24, Tryd.ntmps24
  go_upto_region 1 with fail
  refine name_world _ ?_
  intro wF hF0
  have RR : Hid (RB w wF [(w.heap.size + 1 + 1, Z9), (w.heap.size + 1, (P9 x2 y2 n2)), (w.heap.size, (P9 x1 y1 n1))]) := by rw [hF0]; exact (rbN (rbN (rbN (rb0 w) (by simp)) (by simp)) (by simp))
  clear hF0
  obtain ⟨q2, q1, q0, qT⟩ := RR.out.r.lts
  refine wp_region_told (by kernel_rfl) (by kernel_rfl) (by kernel_rfl) [(w.heap.size, (P9 x1 y1 n1)), (w.heap.size + 1, (P9 x2 y2 n2))]
    [sV (A3 0 0 0),
     sV (A9 x1 y1 n1),
     sV (A3 x_0 y_1 z_2),
     sV (A9 x2 y2 n2),
     sV (A3 x_3 y_4 z_5),
     sV (A9 x_6 y_7 n_8),
     sK (w.heap.size + 1 + 1) Z9 (P9 x_6 y_7 n_8)]
    (by kernel_rfl) RR.out.b (RowsAt.cons (RR.out.at 2 rfl) (RowsAt.cons (RR.out.at 1 rfl) RowsAt.nil)) (StOk.of [(w.heap.size + 1 + 1, Z9)] rfl (StM.cons (RR.out.at 0 rfl) (by omega) (Apart.cons (by omega) (Apart.cons (by omega) Apart.nil)) Apart.nil StM.nil))
    (Obs.val (fun a' w' E => ob_build 63 _ rfl (pm0) (bd63_ w'))
    (Obs.val (fun a' w' E => ob_loada 26 (.tmp 2) rfl (E.old 2 (by kernel_rfl)) (E.row (g := w.heap.size) (c := (P9 x1 y1 n1)) 0 rfl) Tryd.underlying26 rfl (by kernel_rfl) rfl)
    (Obs.val (fun a' w' E => ob_fcall 46 _ _ rfl (am2 (E.new (v := (A3 0 0 0)) 5 0 (by kernel_rfl) rfl) (E.new (v := (A9 x1 y1 n1)) 6 1 (by kernel_rfl) rfl)) (fc46 _ _) (c1.out w'))
    (Obs.val (fun a' w' E => ob_loada 26 (.tmp 3) rfl (E.old 3 (by kernel_rfl)) (E.row (g := w.heap.size + 1) (c := (P9 x2 y2 n2)) 1 rfl) Tryd.underlying26 rfl (by kernel_rfl) rfl)
    (Obs.val (fun a' w' E => ob_fcall 46 _ _ rfl (am2 (E.new (v := (A3 x_0 y_1 z_2)) 7 2 (by kernel_rfl) rfl) (E.new (v := (A9 x2 y2 n2)) 8 3 (by kernel_rfl) rfl)) (fc46 _ _) (c2.out w'))
    (Obs.val (fun a' w' E => ob_fcall 45 _ _ rfl (am1 (E.new (v := (A3 x_3 y_4 z_5)) 9 4 (by kernel_rfl) rfl)) (fc45 _ _) (c3.out w'))
    (Obs.stk (fun a' w' E hr => ob_storea 26 (.tmp 4) (.tmp 10) rfl (E.old 4 (by kernel_rfl)) (E.new (v := (A9 x_6 y_7 n_8)) 10 5 (by kernel_rfl) rfl) rfl hr (by kernel_rfl) (Nat.le_of_ble_eq_true rfl) (by kernel_rfl) rfl)
    Obs.nil))))))) ?_
  intro bs w1 aZ haZ F
  have eZ : aZ = ({ tmps := #[(A9 x1 y1 n1), (A9 x2 y2 n2), (PT w.heap.size), (PT (w.heap.size + 1)), (PT (w.heap.size + 1 + 1)), (A3 0 0 0), (A9 x1 y1 n1), (A3 x_0 y_1 z_2), (A9 x2 y2 n2), (A3 x_3 y_4 z_5), (A9 x_6 y_7 n_8)], defers := [] } : Act) := haZ.trans (by kernel_rfl)
  subst eZ
  clear haZ
  replace RR : Hid (RB w w1 [(w.heap.size + 1 + 1, (P9 x_6 y_7 n_8)), (w.heap.size + 1, (P9 x2 y2 n2)), (w.heap.size, (P9 x1 y1 n1))]) := ⟨F.bw, (RowsAt.cons (F.sk 6 rfl) (RowsAt.cons (F.row 1 rfl) (RowsAt.cons (F.row 0 rfl) RowsAt.nil)))⟩
  clear F qT q0 q1 q2
  clear wF
  go_wp2
  exact bodyPost_ret (v := (A9 x_6 y_7 n_8)) (resA (p := 4) (ty := 26) rfl (g := w.heap.size + 1 + 1) rfl (RR.out.at 0 rfl) Tryd.underlying26 rfl (by kernel_rfl)) rfl ⟨rfl, RR.out.b⟩
end Go.Proofs.YtpdoonofipcbeaaDoor
