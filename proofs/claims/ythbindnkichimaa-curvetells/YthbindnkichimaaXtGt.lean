/- Raw walks of CurveTells, over letters. -/
import Derived.Test.YthbindnkichimaaXtMC
import Derived.Test.YthbindnkichimaaXtQc
import Derived.Test.YthbindnkichimaaXtEq
import Derived.WalkSmall
import Derived.Deep.Cut
import Derived.Deep.Light
namespace Go.Proofs.Ythbindnkichimaa
open Go.RowKit Go.Sort
set_option linter.unusedVariables false
set_option maxRecDepth 100000 in
set_option maxHeartbeats 4000000 in
theorem tells_a (px py qx qy lx ly gx gy mx my sx sy dx dy : Nat) (pn qn ln gn mn sn dn : Bool) (x pr od : Nat) (odd lo : Bool) (hL : Does 8 #[(U x), (.bool odd)] (.tuple #[(A9 lx ly ln), (.bool lo)])) (hL2 : Does 9 #[(U x), (.bool odd)] (.tuple #[(A9 lx ly ln), (.bool lo)])) (hOp : Does 10 #[(A9 px py pn)] (.bool false)) (hRp : Does 11 #[(A9 px py pn)] (.bool false)) (hP1 : Does 12 #[] (U pr)) (hP2 : Does 13 #[] (U pr)) (hN1 : Does 14 #[] (U od)) (hN2 : Does 15 #[] (U od)) (hB1 : Does 16 #[] (A9 gx gy gn)) (hB2 : Does 17 #[] (A9 gx gy gn)) (hW : Does 18 #[] (.bool true)) (hE0 : ∀ w, (Op.equalIn 10000 26 (A9 lx ly ln) (A9 lx ly ln)).run Try.prog w = .ok true w) (hE1 : ∀ w, (Op.equalIn 10000 24 (U pr) (U pr)).run Try.prog w = .ok true w) (hE2 : ∀ w, (Op.equalIn 10000 24 (U od) (U od)).run Try.prog w = .ok true w) (hE3 : ∀ w, (Op.equalIn 10000 26 (A9 gx gy gn) (A9 gx gy gn)).run Try.prog w = .ok true w)
    (w : World) : Calls Try.prog 3 #[(A9 px py pn), (A9 qx qy qn), (U x), (.bool odd)] w fun e w' => e = .returned (.bool true) ∧ Below w.heap.size w w' := by
  go_enter Try.func3, Try.ntmps3
  go_upto_region 1 with fail
  refine name_world _ ?_
  intro wF hF0
  have RR : Hid (RB w wF [(w.heap.size + 1 + 1, (Ar x)), (w.heap.size + 1, (P9 qx qy qn)), (w.heap.size, (P9 px py pn))]) := by rw [hF0]; exact (rbN (rbN (rbN (rb0 w) (by simp)) (by simp)) (by simp))
  clear hF0
  obtain ⟨q2, q1, q0, qT⟩ := RR.out.r.lts
  refine wp_region_told (by kernel_rfl) (by kernel_rfl) (by kernel_rfl) [(w.heap.size, (P9 px py pn)), (w.heap.size + 1, (P9 qx qy qn)), (w.heap.size + 1 + 1, (Ar x))]
    [sV (U x),
     sV (.bool odd),
     sV (.tuple #[(A9 lx ly ln), (.bool lo)]),
     sV (.tuple #[(A9 lx ly ln), (.bool lo)]),
     sV (A9 lx ly ln),
     sV (.bool lo),
     sA (fun g => .pointer (some ⟨g, 0, none⟩)) 7 Z9 (P9 lx ly ln),
     sS 6,
     sV (.bool lo)]
    (by kernel_rfl) RR.out.b (RowsAt.cons (RR.out.at 2 rfl) (RowsAt.cons (RR.out.at 1 rfl) (RowsAt.cons (RR.out.at 0 rfl) RowsAt.nil))) (StOk.of [] rfl StM.nil)
    (Obs.val (fun a' w' E => ob_loada 24 (.tmp 6) rfl (E.old 6 (by kernel_rfl)) (E.row (g := w.heap.size + 1 + 1) (c := (Ar x)) 2 rfl) Try.underlying24 rfl (by kernel_rfl) rfl)
    (Obs.val (fun a' w' E => ob_move (.tmp 3) rfl (E.old 3 (by kernel_rfl)))
    (Obs.val (fun a' w' E => ob_fcall 8 _ _ rfl (am2 (E.new (v := (U x)) 14 0 (by kernel_rfl) rfl) (E.new (v := (.bool odd)) 15 1 (by kernel_rfl) rfl)) (fc8 _ _) (hL.out w'))
    (Obs.val (fun a' w' E => ob_move (.tmp 16) rfl (E.new (v := (.tuple #[(A9 lx ly ln), (.bool lo)])) 16 2 (by kernel_rfl) rfl))
    (Obs.val (fun a' w' E => ob_extract (.tmp 13) 0 rfl (E.new (v := (.tuple #[(A9 lx ly ln), (.bool lo)])) 13 3 (by kernel_rfl) rfl) rfl)
    (Obs.val (fun a' w' E => ob_extract (.tmp 13) 1 rfl (E.new (v := (.tuple #[(A9 lx ly ln), (.bool lo)])) 13 3 (by kernel_rfl) rfl) rfl)
    (Obs.alloc (fun a' w' E => ob_alloc (t := 26) (by simp [opAt, execOp, go_sem]))
    (Obs.sta rfl (fun a' w' g E ha hr => ob_storea 26 (.tmp 9) (.tmp 17) rfl (ha 9 (by kernel_rfl)) (E.new (v := (A9 lx ly ln)) 17 4 (by kernel_rfl) rfl) rfl hr (by kernel_rfl) (Nat.le_of_ble_eq_true rfl) (by kernel_rfl) rfl)
    (Obs.val (fun a' w' E => ob_assign (.tmp 18) rfl (E.new (v := (.bool lo)) 18 5 (by kernel_rfl) rfl))
    Obs.nil))))))))) ?_
  intro bs w1 aZ haZ F
  have eZ : aZ = ({ tmps := #[(A9 px py pn), (A9 qx qy qn), (U x), (.bool odd), (PT w.heap.size), (PT (w.heap.size + 1)), (PT (w.heap.size + 1 + 1)), undef, (.bool false), (PT ((bs 6))), (.bool lo), undef, undef, (.tuple #[(A9 lx ly ln), (.bool lo)]), (U x), (.bool odd), (.tuple #[(A9 lx ly ln), (.bool lo)]), (A9 lx ly ln), (.bool lo), undef, undef, undef, undef, undef, undef, undef, undef, undef, undef, undef, undef, undef, undef, undef, undef, undef, undef, undef, undef, undef, undef, undef, undef, undef, undef, undef, undef, undef, undef, undef, undef, undef, undef, undef, undef, undef, undef, undef, undef, undef, undef, undef, undef, undef, undef, undef, undef, undef, undef, undef, undef, undef, undef, undef, undef, undef, undef, undef, undef, undef, undef, undef, undef, undef, undef, undef, undef, undef, undef, undef], defers := [] } : Act) := haZ.trans (by kernel_rfl)
  subst eZ
  clear haZ
  obtain ⟨h6, X6⟩ := F.al 6 rfl rfl
  replace RR : Hid (RB w w1 [((bs 6), (P9 lx ly ln)), (w.heap.size + 1 + 1, (Ar x)), (w.heap.size + 1, (P9 qx qy qn)), (w.heap.size, (P9 px py pn))]) := ⟨F.bw, (RowsAt.cons X6 (RowsAt.cons (F.row 2 rfl) (RowsAt.cons (F.row 1 rfl) (RowsAt.cons (F.row 0 rfl) RowsAt.nil))))⟩
  generalize bs 6 = g1_6 at *
  have k1_6_0 := Nat.lt_of_lt_of_le q0 h6
  have k1_6_1 := Nat.lt_of_lt_of_le q1 h6
  have k1_6_2 := Nat.lt_of_lt_of_le q2 h6
  clear F qT q0 q1 q2 h6 X6
  clear wF
  go_upto_region 2 with fail
  obtain ⟨q3, q2, q1, q0, qT⟩ := RR.out.r.lts
  refine wp_region_told (by kernel_rfl) (by kernel_rfl) (by kernel_rfl) [(w.heap.size, (P9 px py pn)), (w.heap.size + 1, (P9 qx qy qn)), (w.heap.size + 1 + 1, (Ar x)), (g1_6, (P9 lx ly ln))]
    [sV (U x),
     sV (.bool odd),
     sV (.tuple #[(A9 lx ly ln), (.bool lo)]),
     sV (.tuple #[(A9 lx ly ln), (.bool lo)]),
     sV (A9 lx ly ln),
     sV (.bool lo),
     sA (fun g => .pointer (some ⟨g, 0, none⟩)) 7 Z9 (P9 lx ly ln),
     sS 6,
     sV (.bool lo)]
    (by kernel_rfl) RR.out.b (RowsAt.cons (RR.out.at 3 rfl) (RowsAt.cons (RR.out.at 2 rfl) (RowsAt.cons (RR.out.at 1 rfl) (RowsAt.cons (RR.out.at 0 rfl) RowsAt.nil)))) (StOk.of [] rfl StM.nil)
    (Obs.val (fun a' w' E => ob_loada 24 (.tmp 6) rfl (E.old 6 (by kernel_rfl)) (E.row (g := w.heap.size + 1 + 1) (c := (Ar x)) 2 rfl) Try.underlying24 rfl (by kernel_rfl) rfl)
    (Obs.val (fun a' w' E => ob_move (.tmp 3) rfl (E.old 3 (by kernel_rfl)))
    (Obs.val (fun a' w' E => ob_fcall 9 _ _ rfl (am2 (E.new (v := (U x)) 20 0 (by kernel_rfl) rfl) (E.new (v := (.bool odd)) 21 1 (by kernel_rfl) rfl)) (fc9 _ _) (hL2.out w'))
    (Obs.val (fun a' w' E => ob_move (.tmp 22) rfl (E.new (v := (.tuple #[(A9 lx ly ln), (.bool lo)])) 22 2 (by kernel_rfl) rfl))
    (Obs.val (fun a' w' E => ob_extract (.tmp 19) 0 rfl (E.new (v := (.tuple #[(A9 lx ly ln), (.bool lo)])) 19 3 (by kernel_rfl) rfl) rfl)
    (Obs.val (fun a' w' E => ob_extract (.tmp 19) 1 rfl (E.new (v := (.tuple #[(A9 lx ly ln), (.bool lo)])) 19 3 (by kernel_rfl) rfl) rfl)
    (Obs.alloc (fun a' w' E => ob_alloc (t := 26) (by simp [opAt, execOp, go_sem]))
    (Obs.sta rfl (fun a' w' g E ha hr => ob_storea 26 (.tmp 11) (.tmp 23) rfl (ha 11 (by kernel_rfl)) (E.new (v := (A9 lx ly ln)) 23 4 (by kernel_rfl) rfl) rfl hr (by kernel_rfl) (Nat.le_of_ble_eq_true rfl) (by kernel_rfl) rfl)
    (Obs.val (fun a' w' E => ob_assign (.tmp 24) rfl (E.new (v := (.bool lo)) 24 5 (by kernel_rfl) rfl))
    Obs.nil))))))))) ?_
  intro bs w2 aZ haZ F
  have eZ : aZ = ({ tmps := #[(A9 px py pn), (A9 qx qy qn), (U x), (.bool odd), (PT w.heap.size), (PT (w.heap.size + 1)), (PT (w.heap.size + 1 + 1)), undef, (.bool false), (PT g1_6), (.bool lo), (PT ((bs 6))), (.bool lo), (.tuple #[(A9 lx ly ln), (.bool lo)]), (U x), (.bool odd), (.tuple #[(A9 lx ly ln), (.bool lo)]), (A9 lx ly ln), (.bool lo), (.tuple #[(A9 lx ly ln), (.bool lo)]), (U x), (.bool odd), (.tuple #[(A9 lx ly ln), (.bool lo)]), (A9 lx ly ln), (.bool lo), undef, undef, undef, undef, undef, undef, undef, undef, undef, undef, undef, undef, undef, undef, undef, undef, undef, undef, undef, undef, undef, undef, undef, undef, undef, undef, undef, undef, undef, undef, undef, undef, undef, undef, undef, undef, undef, undef, undef, undef, undef, undef, undef, undef, undef, undef, undef, undef, undef, undef, undef, undef, undef, undef, undef, undef, undef, undef, undef, undef, undef, undef, undef, undef, undef], defers := [] } : Act) := haZ.trans (by kernel_rfl)
  subst eZ
  clear haZ
  obtain ⟨h6, X6⟩ := F.al 6 rfl rfl
  replace RR : Hid (RB w w2 [((bs 6), (P9 lx ly ln)), (g1_6, (P9 lx ly ln)), (w.heap.size + 1 + 1, (Ar x)), (w.heap.size + 1, (P9 qx qy qn)), (w.heap.size, (P9 px py pn))]) := ⟨F.bw, (RowsAt.cons X6 (RowsAt.cons (F.row 3 rfl) (RowsAt.cons (F.row 2 rfl) (RowsAt.cons (F.row 1 rfl) (RowsAt.cons (F.row 0 rfl) RowsAt.nil)))))⟩
  generalize bs 6 = g2_6 at *
  have k2_6_0 := Nat.lt_of_lt_of_le q0 h6
  have k2_6_1 := Nat.lt_of_lt_of_le q1 h6
  have k2_6_2 := Nat.lt_of_lt_of_le q2 h6
  have k2_6_3 := Nat.lt_of_lt_of_le q3 h6
  clear F qT q0 q1 q2 q3 h6 X6
  go_upto_region 3 with fail
  obtain ⟨q4, q3, q2, q1, q0, qT⟩ := RR.out.r.lts
  refine wp_region_told (by kernel_rfl) (by kernel_rfl) (by kernel_rfl) [(w.heap.size, (P9 px py pn)), (w.heap.size + 1, (P9 qx qy qn)), (w.heap.size + 1 + 1, (Ar x)), (g1_6, (P9 lx ly ln)), (g2_6, (P9 lx ly ln))]
    [sV (A9 px py pn),
     sV (.bool false),
     sV (A9 px py pn),
     sV (.bool false),
     sV (.bool false),
     sV (.bool false),
     sV (A9 lx ly ln),
     sV (A9 lx ly ln),
     sV (.bool false),
     sV (.bool false),
     sV (.bool false),
     sV (.bool lo),
     sV (.bool lo),
     sV (.bool false),
     sV (.bool false),
     sV (.bool false),
     sV (U pr),
     sV (U pr),
     sV (.bool false),
     sV (.bool false),
     sV (.bool false),
     sV (U od),
     sV (U od),
     sV (.bool false),
     sV (.bool false),
     sV (.bool false),
     sV (A9 gx gy gn),
     sV (A9 gx gy gn),
     sV (.bool false),
     sV (.bool false)]
    (by kernel_rfl) RR.out.b (RowsAt.cons (RR.out.at 4 rfl) (RowsAt.cons (RR.out.at 3 rfl) (RowsAt.cons (RR.out.at 2 rfl) (RowsAt.cons (RR.out.at 1 rfl) (RowsAt.cons (RR.out.at 0 rfl) RowsAt.nil))))) (StOk.of [] rfl StM.nil)
    (Obs.val (fun a' w' E => ob_loada 26 (.tmp 4) rfl (E.old 4 (by kernel_rfl)) (E.row (g := w.heap.size) (c := (P9 px py pn)) 0 rfl) Try.underlying26 rfl (by kernel_rfl) rfl)
    (Obs.val (fun a' w' E => ob_fcall 10 _ _ rfl (am1 (E.new (v := (A9 px py pn)) 25 0 (by kernel_rfl) rfl)) (fc10 _ _) (hOp.out w'))
    (Obs.val (fun a' w' E => ob_loada 26 (.tmp 4) rfl (E.old 4 (by kernel_rfl)) (E.row (g := w.heap.size) (c := (P9 px py pn)) 0 rfl) Try.underlying26 rfl (by kernel_rfl) rfl)
    (Obs.val (fun a' w' E => ob_fcall 11 _ _ rfl (am1 (E.new (v := (A9 px py pn)) 27 2 (by kernel_rfl) rfl)) (fc11 _ _) (hRp.out w'))
    (Obs.val (fun a' w' E => ob_binOp .neq 4 (.tmp 26) (.tmp 28) 4 rfl (E.new (v := (.bool false)) 26 1 (by kernel_rfl) rfl) (E.new (v := (.bool false)) 28 3 (by kernel_rfl) rfl) (by simp [go_sem]))
    (Obs.val (fun a' w' E => ob_move (.tmp 29) rfl (E.new (v := (.bool false)) 29 4 (by kernel_rfl) rfl))
    (Obs.gval rfl rfl (fun a' w' E => E.new 30 5 (by kernel_rfl) rfl) (fun a' w' E => ob_loada 26 (.tmp 9) rfl (E.old 9 (by kernel_rfl)) (E.row (g := g1_6) (c := (P9 lx ly ln)) 3 rfl) Try.underlying26 rfl (by kernel_rfl) rfl)
    (Obs.gval rfl rfl (fun a' w' E => E.new 30 5 (by kernel_rfl) rfl) (fun a' w' E => ob_loada 26 (.tmp 11) rfl (E.old 11 (by kernel_rfl)) (E.row (g := g2_6) (c := (P9 lx ly ln)) 4 rfl) Try.underlying26 rfl (by kernel_rfl) rfl)
    (Obs.gval rfl rfl (fun a' w' E => E.new 30 5 (by kernel_rfl) rfl) (fun a' w' E => ob_binOp .neq 26 (.tmp 31) (.tmp 32) 26 rfl (E.new (v := (A9 lx ly ln)) 31 6 (by kernel_rfl) rfl) (E.new (v := (A9 lx ly ln)) 32 7 (by kernel_rfl) rfl) (by simp [go_sem, hE0]))
    (Obs.val (fun a' w' E => ob_pick (.tmp 30) (.const (.bool true)) (.tmp 33) rfl (E.new (v := (.bool false)) 30 5 (by kernel_rfl) rfl) (E.new (v := (.bool false)) 33 8 (by kernel_rfl) rfl))
    (Obs.val (fun a' w' E => ob_move (.tmp 34) rfl (E.new (v := (.bool false)) 34 9 (by kernel_rfl) rfl))
    (Obs.gval rfl rfl (fun a' w' E => E.new 35 10 (by kernel_rfl) rfl) (fun a' w' E => ob_move (.tmp 10) rfl (E.old 10 (by kernel_rfl)))
    (Obs.gval rfl rfl (fun a' w' E => E.new 35 10 (by kernel_rfl) rfl) (fun a' w' E => ob_move (.tmp 12) rfl (E.old 12 (by kernel_rfl)))
    (Obs.gval rfl rfl (fun a' w' E => E.new 35 10 (by kernel_rfl) rfl) (fun a' w' E => ob_binOp .neq 4 (.tmp 36) (.tmp 37) 4 rfl (E.new (v := (.bool lo)) 36 11 (by kernel_rfl) rfl) (E.new (v := (.bool lo)) 37 12 (by kernel_rfl) rfl) (by simp [go_sem]))
    (Obs.val (fun a' w' E => ob_pick (.tmp 35) (.const (.bool true)) (.tmp 38) rfl (E.new (v := (.bool false)) 35 10 (by kernel_rfl) rfl) (E.new (v := (.bool false)) 38 13 (by kernel_rfl) rfl))
    (Obs.val (fun a' w' E => ob_move (.tmp 39) rfl (E.new (v := (.bool false)) 39 14 (by kernel_rfl) rfl))
    (Obs.gval rfl rfl (fun a' w' E => E.new 40 15 (by kernel_rfl) rfl) (fun a' w' E => ob_fcall 12 _ _ rfl (am0) (fc12 _ _) (hP1.out w'))
    (Obs.gval rfl rfl (fun a' w' E => E.new 40 15 (by kernel_rfl) rfl) (fun a' w' E => ob_fcall 13 _ _ rfl (am0) (fc13 _ _) (hP2.out w'))
    (Obs.gval rfl rfl (fun a' w' E => E.new 40 15 (by kernel_rfl) rfl) (fun a' w' E => ob_binOp .neq 24 (.tmp 41) (.tmp 42) 24 rfl (E.new (v := (U pr)) 41 16 (by kernel_rfl) rfl) (E.new (v := (U pr)) 42 17 (by kernel_rfl) rfl) (by simp [go_sem, hE1]))
    (Obs.val (fun a' w' E => ob_pick (.tmp 40) (.const (.bool true)) (.tmp 43) rfl (E.new (v := (.bool false)) 40 15 (by kernel_rfl) rfl) (E.new (v := (.bool false)) 43 18 (by kernel_rfl) rfl))
    (Obs.val (fun a' w' E => ob_move (.tmp 44) rfl (E.new (v := (.bool false)) 44 19 (by kernel_rfl) rfl))
    (Obs.gval rfl rfl (fun a' w' E => E.new 45 20 (by kernel_rfl) rfl) (fun a' w' E => ob_fcall 14 _ _ rfl (am0) (fc14 _ _) (hN1.out w'))
    (Obs.gval rfl rfl (fun a' w' E => E.new 45 20 (by kernel_rfl) rfl) (fun a' w' E => ob_fcall 15 _ _ rfl (am0) (fc15 _ _) (hN2.out w'))
    (Obs.gval rfl rfl (fun a' w' E => E.new 45 20 (by kernel_rfl) rfl) (fun a' w' E => ob_binOp .neq 24 (.tmp 46) (.tmp 47) 24 rfl (E.new (v := (U od)) 46 21 (by kernel_rfl) rfl) (E.new (v := (U od)) 47 22 (by kernel_rfl) rfl) (by simp [go_sem, hE2]))
    (Obs.val (fun a' w' E => ob_pick (.tmp 45) (.const (.bool true)) (.tmp 48) rfl (E.new (v := (.bool false)) 45 20 (by kernel_rfl) rfl) (E.new (v := (.bool false)) 48 23 (by kernel_rfl) rfl))
    (Obs.val (fun a' w' E => ob_move (.tmp 49) rfl (E.new (v := (.bool false)) 49 24 (by kernel_rfl) rfl))
    (Obs.gval rfl rfl (fun a' w' E => E.new 50 25 (by kernel_rfl) rfl) (fun a' w' E => ob_fcall 16 _ _ rfl (am0) (fc16 _ _) (hB1.out w'))
    (Obs.gval rfl rfl (fun a' w' E => E.new 50 25 (by kernel_rfl) rfl) (fun a' w' E => ob_fcall 17 _ _ rfl (am0) (fc17 _ _) (hB2.out w'))
    (Obs.gval rfl rfl (fun a' w' E => E.new 50 25 (by kernel_rfl) rfl) (fun a' w' E => ob_binOp .neq 26 (.tmp 51) (.tmp 52) 26 rfl (E.new (v := (A9 gx gy gn)) 51 26 (by kernel_rfl) rfl) (E.new (v := (A9 gx gy gn)) 52 27 (by kernel_rfl) rfl) (by simp [go_sem, hE3]))
    (Obs.val (fun a' w' E => ob_pick (.tmp 50) (.const (.bool true)) (.tmp 53) rfl (E.new (v := (.bool false)) 50 25 (by kernel_rfl) rfl) (E.new (v := (.bool false)) 53 28 (by kernel_rfl) rfl))
    Obs.nil)))))))))))))))))))))))))))))) ?_
  intro bs w3 aZ haZ F
  have eZ : aZ = ({ tmps := #[(A9 px py pn), (A9 qx qy qn), (U x), (.bool odd), (PT w.heap.size), (PT (w.heap.size + 1)), (PT (w.heap.size + 1 + 1)), undef, (.bool false), (PT g1_6), (.bool lo), (PT g2_6), (.bool lo), (.tuple #[(A9 lx ly ln), (.bool lo)]), (U x), (.bool odd), (.tuple #[(A9 lx ly ln), (.bool lo)]), (A9 lx ly ln), (.bool lo), (.tuple #[(A9 lx ly ln), (.bool lo)]), (U x), (.bool odd), (.tuple #[(A9 lx ly ln), (.bool lo)]), (A9 lx ly ln), (.bool lo), (A9 px py pn), (.bool false), (A9 px py pn), (.bool false), (.bool false), (.bool false), (A9 lx ly ln), (A9 lx ly ln), (.bool false), (.bool false), (.bool false), (.bool lo), (.bool lo), (.bool false), (.bool false), (.bool false), (U pr), (U pr), (.bool false), (.bool false), (.bool false), (U od), (U od), (.bool false), (.bool false), (.bool false), (A9 gx gy gn), (A9 gx gy gn), (.bool false), (.bool false), undef, undef, undef, undef, undef, undef, undef, undef, undef, undef, undef, undef, undef, undef, undef, undef, undef, undef, undef, undef, undef, undef, undef, undef, undef, undef, undef, undef, undef, undef, undef, undef, undef, undef, undef], defers := [] } : Act) := haZ.trans (by kernel_rfl)
  subst eZ
  clear haZ
  replace RR : Hid (RB w w3 [(g2_6, (P9 lx ly ln)), (g1_6, (P9 lx ly ln)), (w.heap.size + 1 + 1, (Ar x)), (w.heap.size + 1, (P9 qx qy qn)), (w.heap.size, (P9 px py pn))]) := ⟨F.bw, (RowsAt.cons (F.row 4 rfl) (RowsAt.cons (F.row 3 rfl) (RowsAt.cons (F.row 2 rfl) (RowsAt.cons (F.row 1 rfl) (RowsAt.cons (F.row 0 rfl) RowsAt.nil)))))⟩
  clear F qT q0 q1 q2 q3 q4
  go_upto_region 5 with fail
  obtain ⟨q4, q3, q2, q1, q0, qT⟩ := RR.out.r.lts
  refine wp_region_told (by kernel_rfl) (by kernel_rfl) (by kernel_rfl) [(w.heap.size, (P9 px py pn)), (w.heap.size + 1, (P9 qx qy qn)), (w.heap.size + 1 + 1, (Ar x)), (g1_6, (P9 lx ly ln)), (g2_6, (P9 lx ly ln))]
    [sV (A9 px py pn),
     sV (.bool false),
     sV (.bool true),
     sV (.bool true),
     sV undef,
     sV undef,
     sV undef,
     sV (.bool true)]
    (by kernel_rfl) RR.out.b (RowsAt.cons (RR.out.at 4 rfl) (RowsAt.cons (RR.out.at 3 rfl) (RowsAt.cons (RR.out.at 2 rfl) (RowsAt.cons (RR.out.at 1 rfl) (RowsAt.cons (RR.out.at 0 rfl) RowsAt.nil))))) (StOk.of [] rfl StM.nil)
    (Obs.val (fun a' w' E => ob_loada 26 (.tmp 4) rfl (E.old 4 (by kernel_rfl)) (E.row (g := w.heap.size) (c := (P9 px py pn)) 0 rfl) Try.underlying26 rfl (by kernel_rfl) rfl)
    (Obs.val (fun a' w' E => ob_fcall 11 _ _ rfl (am1 (E.new (v := (A9 px py pn)) 55 0 (by kernel_rfl) rfl)) (fc11 _ _) (hRp.out w'))
    (Obs.val (fun a' w' E => ob_unOp .not 4 (.tmp 56) rfl (E.new (v := (.bool false)) 56 1 (by kernel_rfl) rfl) (by simp [go_sem]))
    (Obs.val (fun a' w' E => ob_move (.tmp 57) rfl (E.new (v := (.bool true)) 57 2 (by kernel_rfl) rfl))
    (Obs.skip rfl rfl (fun a' w' E => E.new 58 3 (by kernel_rfl) rfl) (by decide) 
    (Obs.skip rfl rfl (fun a' w' E => E.new 58 3 (by kernel_rfl) rfl) (by decide) 
    (Obs.skip rfl rfl (fun a' w' E => E.new 58 3 (by kernel_rfl) rfl) (by decide) 
    (Obs.val (fun a' w' E => ob_pick (.tmp 58) (.const (.bool true)) (.tmp 61) rfl (E.new (v := (.bool true)) 58 3 (by kernel_rfl) rfl) (evc a' (.bool true)))
    Obs.nil)))))))) ?_
  intro bs w4 aZ haZ F
  have eZ : aZ = ({ tmps := #[(A9 px py pn), (A9 qx qy qn), (U x), (.bool odd), (PT w.heap.size), (PT (w.heap.size + 1)), (PT (w.heap.size + 1 + 1)), undef, (.bool false), (PT g1_6), (.bool lo), (PT g2_6), (.bool lo), (.tuple #[(A9 lx ly ln), (.bool lo)]), (U x), (.bool odd), (.tuple #[(A9 lx ly ln), (.bool lo)]), (A9 lx ly ln), (.bool lo), (.tuple #[(A9 lx ly ln), (.bool lo)]), (U x), (.bool odd), (.tuple #[(A9 lx ly ln), (.bool lo)]), (A9 lx ly ln), (.bool lo), (A9 px py pn), (.bool false), (A9 px py pn), (.bool false), (.bool false), (.bool false), (A9 lx ly ln), (A9 lx ly ln), (.bool false), (.bool false), (.bool false), (.bool lo), (.bool lo), (.bool false), (.bool false), (.bool false), (U pr), (U pr), (.bool false), (.bool false), (.bool false), (U od), (U od), (.bool false), (.bool false), (.bool false), (A9 gx gy gn), (A9 gx gy gn), (.bool false), (.bool false), (A9 px py pn), (.bool false), (.bool true), (.bool true), undef, undef, undef, (.bool true), undef, undef, undef, undef, undef, undef, undef, undef, undef, undef, undef, undef, undef, undef, undef, undef, undef, undef, undef, undef, undef, undef, undef, undef, undef, undef, undef], defers := [] } : Act) := haZ.trans (by kernel_rfl)
  subst eZ
  clear haZ
  replace RR : Hid (RB w w4 [(g2_6, (P9 lx ly ln)), (g1_6, (P9 lx ly ln)), (w.heap.size + 1 + 1, (Ar x)), (w.heap.size + 1, (P9 qx qy qn)), (w.heap.size, (P9 px py pn))]) := ⟨F.bw, (RowsAt.cons (F.row 4 rfl) (RowsAt.cons (F.row 3 rfl) (RowsAt.cons (F.row 2 rfl) (RowsAt.cons (F.row 1 rfl) (RowsAt.cons (F.row 0 rfl) RowsAt.nil)))))⟩
  clear F qT q0 q1 q2 q3 q4
  go_upto_region 6 with fail
  obtain ⟨q4, q3, q2, q1, q0, qT⟩ := RR.out.r.lts
  refine wp_region_told (by kernel_rfl) (by kernel_rfl) (by kernel_rfl) [(w.heap.size, (P9 px py pn)), (w.heap.size + 1, (P9 qx qy qn)), (w.heap.size + 1 + 1, (Ar x)), (g1_6, (P9 lx ly ln)), (g2_6, (P9 lx ly ln))]
    [sV (.bool true),
     sV (.bool true)]
    (by kernel_rfl) RR.out.b (RowsAt.cons (RR.out.at 4 rfl) (RowsAt.cons (RR.out.at 3 rfl) (RowsAt.cons (RR.out.at 2 rfl) (RowsAt.cons (RR.out.at 1 rfl) (RowsAt.cons (RR.out.at 0 rfl) RowsAt.nil))))) (StOk.of [] rfl StM.nil)
    (Obs.val (fun a' w' E => ob_fcall 18 _ _ rfl (am0) (fc18 _ _) (hW.out w'))
    (Obs.val (fun a' w' E => ob_assign (.tmp 63) rfl (E.new (v := (.bool true)) 63 0 (by kernel_rfl) rfl))
    Obs.nil)) ?_
  intro bs w5 aZ haZ F
  have eZ : aZ = ({ tmps := #[(A9 px py pn), (A9 qx qy qn), (U x), (.bool odd), (PT w.heap.size), (PT (w.heap.size + 1)), (PT (w.heap.size + 1 + 1)), undef, (.bool true), (PT g1_6), (.bool lo), (PT g2_6), (.bool lo), (.tuple #[(A9 lx ly ln), (.bool lo)]), (U x), (.bool odd), (.tuple #[(A9 lx ly ln), (.bool lo)]), (A9 lx ly ln), (.bool lo), (.tuple #[(A9 lx ly ln), (.bool lo)]), (U x), (.bool odd), (.tuple #[(A9 lx ly ln), (.bool lo)]), (A9 lx ly ln), (.bool lo), (A9 px py pn), (.bool false), (A9 px py pn), (.bool false), (.bool false), (.bool false), (A9 lx ly ln), (A9 lx ly ln), (.bool false), (.bool false), (.bool false), (.bool lo), (.bool lo), (.bool false), (.bool false), (.bool false), (U pr), (U pr), (.bool false), (.bool false), (.bool false), (U od), (U od), (.bool false), (.bool false), (.bool false), (A9 gx gy gn), (A9 gx gy gn), (.bool false), (.bool false), (A9 px py pn), (.bool false), (.bool true), (.bool true), undef, undef, undef, (.bool true), (.bool true), undef, undef, undef, undef, undef, undef, undef, undef, undef, undef, undef, undef, undef, undef, undef, undef, undef, undef, undef, undef, undef, undef, undef, undef, undef, undef], defers := [] } : Act) := haZ.trans (by kernel_rfl)
  subst eZ
  clear haZ
  replace RR : Hid (RB w w5 [(g2_6, (P9 lx ly ln)), (g1_6, (P9 lx ly ln)), (w.heap.size + 1 + 1, (Ar x)), (w.heap.size + 1, (P9 qx qy qn)), (w.heap.size, (P9 px py pn))]) := ⟨F.bw, (RowsAt.cons (F.row 4 rfl) (RowsAt.cons (F.row 3 rfl) (RowsAt.cons (F.row 2 rfl) (RowsAt.cons (F.row 1 rfl) (RowsAt.cons (F.row 0 rfl) RowsAt.nil)))))⟩
  clear F qT q0 q1 q2 q3 q4
  go_wp2
  exact bodyPost_ret (v := (.bool true)) (by simp [results, Try.results3, go_sem]) rfl ⟨rfl, RR.out.b⟩
set_option maxRecDepth 100000 in
set_option maxHeartbeats 4000000 in
theorem tells_b (px py qx qy lx ly gx gy mx my sx sy dx dy : Nat) (pn qn ln gn mn sn dn : Bool) (x pr od : Nat) (odd lo : Bool) (hL : Does 8 #[(U x), (.bool odd)] (.tuple #[(A9 lx ly ln), (.bool lo)])) (hL2 : Does 9 #[(U x), (.bool odd)] (.tuple #[(A9 lx ly ln), (.bool lo)])) (hOp : Does 10 #[(A9 px py pn)] (.bool true)) (hRp : Does 11 #[(A9 px py pn)] (.bool true)) (hP1 : Does 12 #[] (U pr)) (hP2 : Does 13 #[] (U pr)) (hN1 : Does 14 #[] (U od)) (hN2 : Does 15 #[] (U od)) (hB1 : Does 16 #[] (A9 gx gy gn)) (hB2 : Does 17 #[] (A9 gx gy gn)) (hRq : Does 11 #[(A9 qx qy qn)] (.bool false)) (hW : Does 18 #[] (.bool true)) (hE0 : ∀ w, (Op.equalIn 10000 26 (A9 lx ly ln) (A9 lx ly ln)).run Try.prog w = .ok true w) (hE1 : ∀ w, (Op.equalIn 10000 24 (U pr) (U pr)).run Try.prog w = .ok true w) (hE2 : ∀ w, (Op.equalIn 10000 24 (U od) (U od)).run Try.prog w = .ok true w) (hE3 : ∀ w, (Op.equalIn 10000 26 (A9 gx gy gn) (A9 gx gy gn)).run Try.prog w = .ok true w)
    (w : World) : Calls Try.prog 3 #[(A9 px py pn), (A9 qx qy qn), (U x), (.bool odd)] w fun e w' => e = .returned (.bool true) ∧ Below w.heap.size w w' := by
  go_enter Try.func3, Try.ntmps3
  go_upto_region 1 with fail
  refine name_world _ ?_
  intro wF hF0
  have RR : Hid (RB w wF [(w.heap.size + 1 + 1, (Ar x)), (w.heap.size + 1, (P9 qx qy qn)), (w.heap.size, (P9 px py pn))]) := by rw [hF0]; exact (rbN (rbN (rbN (rb0 w) (by simp)) (by simp)) (by simp))
  clear hF0
  obtain ⟨q2, q1, q0, qT⟩ := RR.out.r.lts
  refine wp_region_told (by kernel_rfl) (by kernel_rfl) (by kernel_rfl) [(w.heap.size, (P9 px py pn)), (w.heap.size + 1, (P9 qx qy qn)), (w.heap.size + 1 + 1, (Ar x))]
    [sV (U x),
     sV (.bool odd),
     sV (.tuple #[(A9 lx ly ln), (.bool lo)]),
     sV (.tuple #[(A9 lx ly ln), (.bool lo)]),
     sV (A9 lx ly ln),
     sV (.bool lo),
     sA (fun g => .pointer (some ⟨g, 0, none⟩)) 7 Z9 (P9 lx ly ln),
     sS 6,
     sV (.bool lo)]
    (by kernel_rfl) RR.out.b (RowsAt.cons (RR.out.at 2 rfl) (RowsAt.cons (RR.out.at 1 rfl) (RowsAt.cons (RR.out.at 0 rfl) RowsAt.nil))) (StOk.of [] rfl StM.nil)
    (Obs.val (fun a' w' E => ob_loada 24 (.tmp 6) rfl (E.old 6 (by kernel_rfl)) (E.row (g := w.heap.size + 1 + 1) (c := (Ar x)) 2 rfl) Try.underlying24 rfl (by kernel_rfl) rfl)
    (Obs.val (fun a' w' E => ob_move (.tmp 3) rfl (E.old 3 (by kernel_rfl)))
    (Obs.val (fun a' w' E => ob_fcall 8 _ _ rfl (am2 (E.new (v := (U x)) 14 0 (by kernel_rfl) rfl) (E.new (v := (.bool odd)) 15 1 (by kernel_rfl) rfl)) (fc8 _ _) (hL.out w'))
    (Obs.val (fun a' w' E => ob_move (.tmp 16) rfl (E.new (v := (.tuple #[(A9 lx ly ln), (.bool lo)])) 16 2 (by kernel_rfl) rfl))
    (Obs.val (fun a' w' E => ob_extract (.tmp 13) 0 rfl (E.new (v := (.tuple #[(A9 lx ly ln), (.bool lo)])) 13 3 (by kernel_rfl) rfl) rfl)
    (Obs.val (fun a' w' E => ob_extract (.tmp 13) 1 rfl (E.new (v := (.tuple #[(A9 lx ly ln), (.bool lo)])) 13 3 (by kernel_rfl) rfl) rfl)
    (Obs.alloc (fun a' w' E => ob_alloc (t := 26) (by simp [opAt, execOp, go_sem]))
    (Obs.sta rfl (fun a' w' g E ha hr => ob_storea 26 (.tmp 9) (.tmp 17) rfl (ha 9 (by kernel_rfl)) (E.new (v := (A9 lx ly ln)) 17 4 (by kernel_rfl) rfl) rfl hr (by kernel_rfl) (Nat.le_of_ble_eq_true rfl) (by kernel_rfl) rfl)
    (Obs.val (fun a' w' E => ob_assign (.tmp 18) rfl (E.new (v := (.bool lo)) 18 5 (by kernel_rfl) rfl))
    Obs.nil))))))))) ?_
  intro bs w1 aZ haZ F
  have eZ : aZ = ({ tmps := #[(A9 px py pn), (A9 qx qy qn), (U x), (.bool odd), (PT w.heap.size), (PT (w.heap.size + 1)), (PT (w.heap.size + 1 + 1)), undef, (.bool false), (PT ((bs 6))), (.bool lo), undef, undef, (.tuple #[(A9 lx ly ln), (.bool lo)]), (U x), (.bool odd), (.tuple #[(A9 lx ly ln), (.bool lo)]), (A9 lx ly ln), (.bool lo), undef, undef, undef, undef, undef, undef, undef, undef, undef, undef, undef, undef, undef, undef, undef, undef, undef, undef, undef, undef, undef, undef, undef, undef, undef, undef, undef, undef, undef, undef, undef, undef, undef, undef, undef, undef, undef, undef, undef, undef, undef, undef, undef, undef, undef, undef, undef, undef, undef, undef, undef, undef, undef, undef, undef, undef, undef, undef, undef, undef, undef, undef, undef, undef, undef, undef, undef, undef, undef, undef, undef], defers := [] } : Act) := haZ.trans (by kernel_rfl)
  subst eZ
  clear haZ
  obtain ⟨h6, X6⟩ := F.al 6 rfl rfl
  replace RR : Hid (RB w w1 [((bs 6), (P9 lx ly ln)), (w.heap.size + 1 + 1, (Ar x)), (w.heap.size + 1, (P9 qx qy qn)), (w.heap.size, (P9 px py pn))]) := ⟨F.bw, (RowsAt.cons X6 (RowsAt.cons (F.row 2 rfl) (RowsAt.cons (F.row 1 rfl) (RowsAt.cons (F.row 0 rfl) RowsAt.nil))))⟩
  generalize bs 6 = g1_6 at *
  have k1_6_0 := Nat.lt_of_lt_of_le q0 h6
  have k1_6_1 := Nat.lt_of_lt_of_le q1 h6
  have k1_6_2 := Nat.lt_of_lt_of_le q2 h6
  clear F qT q0 q1 q2 h6 X6
  clear wF
  go_upto_region 2 with fail
  obtain ⟨q3, q2, q1, q0, qT⟩ := RR.out.r.lts
  refine wp_region_told (by kernel_rfl) (by kernel_rfl) (by kernel_rfl) [(w.heap.size, (P9 px py pn)), (w.heap.size + 1, (P9 qx qy qn)), (w.heap.size + 1 + 1, (Ar x)), (g1_6, (P9 lx ly ln))]
    [sV (U x),
     sV (.bool odd),
     sV (.tuple #[(A9 lx ly ln), (.bool lo)]),
     sV (.tuple #[(A9 lx ly ln), (.bool lo)]),
     sV (A9 lx ly ln),
     sV (.bool lo),
     sA (fun g => .pointer (some ⟨g, 0, none⟩)) 7 Z9 (P9 lx ly ln),
     sS 6,
     sV (.bool lo)]
    (by kernel_rfl) RR.out.b (RowsAt.cons (RR.out.at 3 rfl) (RowsAt.cons (RR.out.at 2 rfl) (RowsAt.cons (RR.out.at 1 rfl) (RowsAt.cons (RR.out.at 0 rfl) RowsAt.nil)))) (StOk.of [] rfl StM.nil)
    (Obs.val (fun a' w' E => ob_loada 24 (.tmp 6) rfl (E.old 6 (by kernel_rfl)) (E.row (g := w.heap.size + 1 + 1) (c := (Ar x)) 2 rfl) Try.underlying24 rfl (by kernel_rfl) rfl)
    (Obs.val (fun a' w' E => ob_move (.tmp 3) rfl (E.old 3 (by kernel_rfl)))
    (Obs.val (fun a' w' E => ob_fcall 9 _ _ rfl (am2 (E.new (v := (U x)) 20 0 (by kernel_rfl) rfl) (E.new (v := (.bool odd)) 21 1 (by kernel_rfl) rfl)) (fc9 _ _) (hL2.out w'))
    (Obs.val (fun a' w' E => ob_move (.tmp 22) rfl (E.new (v := (.tuple #[(A9 lx ly ln), (.bool lo)])) 22 2 (by kernel_rfl) rfl))
    (Obs.val (fun a' w' E => ob_extract (.tmp 19) 0 rfl (E.new (v := (.tuple #[(A9 lx ly ln), (.bool lo)])) 19 3 (by kernel_rfl) rfl) rfl)
    (Obs.val (fun a' w' E => ob_extract (.tmp 19) 1 rfl (E.new (v := (.tuple #[(A9 lx ly ln), (.bool lo)])) 19 3 (by kernel_rfl) rfl) rfl)
    (Obs.alloc (fun a' w' E => ob_alloc (t := 26) (by simp [opAt, execOp, go_sem]))
    (Obs.sta rfl (fun a' w' g E ha hr => ob_storea 26 (.tmp 11) (.tmp 23) rfl (ha 11 (by kernel_rfl)) (E.new (v := (A9 lx ly ln)) 23 4 (by kernel_rfl) rfl) rfl hr (by kernel_rfl) (Nat.le_of_ble_eq_true rfl) (by kernel_rfl) rfl)
    (Obs.val (fun a' w' E => ob_assign (.tmp 24) rfl (E.new (v := (.bool lo)) 24 5 (by kernel_rfl) rfl))
    Obs.nil))))))))) ?_
  intro bs w2 aZ haZ F
  have eZ : aZ = ({ tmps := #[(A9 px py pn), (A9 qx qy qn), (U x), (.bool odd), (PT w.heap.size), (PT (w.heap.size + 1)), (PT (w.heap.size + 1 + 1)), undef, (.bool false), (PT g1_6), (.bool lo), (PT ((bs 6))), (.bool lo), (.tuple #[(A9 lx ly ln), (.bool lo)]), (U x), (.bool odd), (.tuple #[(A9 lx ly ln), (.bool lo)]), (A9 lx ly ln), (.bool lo), (.tuple #[(A9 lx ly ln), (.bool lo)]), (U x), (.bool odd), (.tuple #[(A9 lx ly ln), (.bool lo)]), (A9 lx ly ln), (.bool lo), undef, undef, undef, undef, undef, undef, undef, undef, undef, undef, undef, undef, undef, undef, undef, undef, undef, undef, undef, undef, undef, undef, undef, undef, undef, undef, undef, undef, undef, undef, undef, undef, undef, undef, undef, undef, undef, undef, undef, undef, undef, undef, undef, undef, undef, undef, undef, undef, undef, undef, undef, undef, undef, undef, undef, undef, undef, undef, undef, undef, undef, undef, undef, undef, undef], defers := [] } : Act) := haZ.trans (by kernel_rfl)
  subst eZ
  clear haZ
  obtain ⟨h6, X6⟩ := F.al 6 rfl rfl
  replace RR : Hid (RB w w2 [((bs 6), (P9 lx ly ln)), (g1_6, (P9 lx ly ln)), (w.heap.size + 1 + 1, (Ar x)), (w.heap.size + 1, (P9 qx qy qn)), (w.heap.size, (P9 px py pn))]) := ⟨F.bw, (RowsAt.cons X6 (RowsAt.cons (F.row 3 rfl) (RowsAt.cons (F.row 2 rfl) (RowsAt.cons (F.row 1 rfl) (RowsAt.cons (F.row 0 rfl) RowsAt.nil)))))⟩
  generalize bs 6 = g2_6 at *
  have k2_6_0 := Nat.lt_of_lt_of_le q0 h6
  have k2_6_1 := Nat.lt_of_lt_of_le q1 h6
  have k2_6_2 := Nat.lt_of_lt_of_le q2 h6
  have k2_6_3 := Nat.lt_of_lt_of_le q3 h6
  clear F qT q0 q1 q2 q3 h6 X6
  go_upto_region 3 with fail
  obtain ⟨q4, q3, q2, q1, q0, qT⟩ := RR.out.r.lts
  refine wp_region_told (by kernel_rfl) (by kernel_rfl) (by kernel_rfl) [(w.heap.size, (P9 px py pn)), (w.heap.size + 1, (P9 qx qy qn)), (w.heap.size + 1 + 1, (Ar x)), (g1_6, (P9 lx ly ln)), (g2_6, (P9 lx ly ln))]
    [sV (A9 px py pn),
     sV (.bool true),
     sV (A9 px py pn),
     sV (.bool true),
     sV (.bool false),
     sV (.bool false),
     sV (A9 lx ly ln),
     sV (A9 lx ly ln),
     sV (.bool false),
     sV (.bool false),
     sV (.bool false),
     sV (.bool lo),
     sV (.bool lo),
     sV (.bool false),
     sV (.bool false),
     sV (.bool false),
     sV (U pr),
     sV (U pr),
     sV (.bool false),
     sV (.bool false),
     sV (.bool false),
     sV (U od),
     sV (U od),
     sV (.bool false),
     sV (.bool false),
     sV (.bool false),
     sV (A9 gx gy gn),
     sV (A9 gx gy gn),
     sV (.bool false),
     sV (.bool false)]
    (by kernel_rfl) RR.out.b (RowsAt.cons (RR.out.at 4 rfl) (RowsAt.cons (RR.out.at 3 rfl) (RowsAt.cons (RR.out.at 2 rfl) (RowsAt.cons (RR.out.at 1 rfl) (RowsAt.cons (RR.out.at 0 rfl) RowsAt.nil))))) (StOk.of [] rfl StM.nil)
    (Obs.val (fun a' w' E => ob_loada 26 (.tmp 4) rfl (E.old 4 (by kernel_rfl)) (E.row (g := w.heap.size) (c := (P9 px py pn)) 0 rfl) Try.underlying26 rfl (by kernel_rfl) rfl)
    (Obs.val (fun a' w' E => ob_fcall 10 _ _ rfl (am1 (E.new (v := (A9 px py pn)) 25 0 (by kernel_rfl) rfl)) (fc10 _ _) (hOp.out w'))
    (Obs.val (fun a' w' E => ob_loada 26 (.tmp 4) rfl (E.old 4 (by kernel_rfl)) (E.row (g := w.heap.size) (c := (P9 px py pn)) 0 rfl) Try.underlying26 rfl (by kernel_rfl) rfl)
    (Obs.val (fun a' w' E => ob_fcall 11 _ _ rfl (am1 (E.new (v := (A9 px py pn)) 27 2 (by kernel_rfl) rfl)) (fc11 _ _) (hRp.out w'))
    (Obs.val (fun a' w' E => ob_binOp .neq 4 (.tmp 26) (.tmp 28) 4 rfl (E.new (v := (.bool true)) 26 1 (by kernel_rfl) rfl) (E.new (v := (.bool true)) 28 3 (by kernel_rfl) rfl) (by simp [go_sem]))
    (Obs.val (fun a' w' E => ob_move (.tmp 29) rfl (E.new (v := (.bool false)) 29 4 (by kernel_rfl) rfl))
    (Obs.gval rfl rfl (fun a' w' E => E.new 30 5 (by kernel_rfl) rfl) (fun a' w' E => ob_loada 26 (.tmp 9) rfl (E.old 9 (by kernel_rfl)) (E.row (g := g1_6) (c := (P9 lx ly ln)) 3 rfl) Try.underlying26 rfl (by kernel_rfl) rfl)
    (Obs.gval rfl rfl (fun a' w' E => E.new 30 5 (by kernel_rfl) rfl) (fun a' w' E => ob_loada 26 (.tmp 11) rfl (E.old 11 (by kernel_rfl)) (E.row (g := g2_6) (c := (P9 lx ly ln)) 4 rfl) Try.underlying26 rfl (by kernel_rfl) rfl)
    (Obs.gval rfl rfl (fun a' w' E => E.new 30 5 (by kernel_rfl) rfl) (fun a' w' E => ob_binOp .neq 26 (.tmp 31) (.tmp 32) 26 rfl (E.new (v := (A9 lx ly ln)) 31 6 (by kernel_rfl) rfl) (E.new (v := (A9 lx ly ln)) 32 7 (by kernel_rfl) rfl) (by simp [go_sem, hE0]))
    (Obs.val (fun a' w' E => ob_pick (.tmp 30) (.const (.bool true)) (.tmp 33) rfl (E.new (v := (.bool false)) 30 5 (by kernel_rfl) rfl) (E.new (v := (.bool false)) 33 8 (by kernel_rfl) rfl))
    (Obs.val (fun a' w' E => ob_move (.tmp 34) rfl (E.new (v := (.bool false)) 34 9 (by kernel_rfl) rfl))
    (Obs.gval rfl rfl (fun a' w' E => E.new 35 10 (by kernel_rfl) rfl) (fun a' w' E => ob_move (.tmp 10) rfl (E.old 10 (by kernel_rfl)))
    (Obs.gval rfl rfl (fun a' w' E => E.new 35 10 (by kernel_rfl) rfl) (fun a' w' E => ob_move (.tmp 12) rfl (E.old 12 (by kernel_rfl)))
    (Obs.gval rfl rfl (fun a' w' E => E.new 35 10 (by kernel_rfl) rfl) (fun a' w' E => ob_binOp .neq 4 (.tmp 36) (.tmp 37) 4 rfl (E.new (v := (.bool lo)) 36 11 (by kernel_rfl) rfl) (E.new (v := (.bool lo)) 37 12 (by kernel_rfl) rfl) (by simp [go_sem]))
    (Obs.val (fun a' w' E => ob_pick (.tmp 35) (.const (.bool true)) (.tmp 38) rfl (E.new (v := (.bool false)) 35 10 (by kernel_rfl) rfl) (E.new (v := (.bool false)) 38 13 (by kernel_rfl) rfl))
    (Obs.val (fun a' w' E => ob_move (.tmp 39) rfl (E.new (v := (.bool false)) 39 14 (by kernel_rfl) rfl))
    (Obs.gval rfl rfl (fun a' w' E => E.new 40 15 (by kernel_rfl) rfl) (fun a' w' E => ob_fcall 12 _ _ rfl (am0) (fc12 _ _) (hP1.out w'))
    (Obs.gval rfl rfl (fun a' w' E => E.new 40 15 (by kernel_rfl) rfl) (fun a' w' E => ob_fcall 13 _ _ rfl (am0) (fc13 _ _) (hP2.out w'))
    (Obs.gval rfl rfl (fun a' w' E => E.new 40 15 (by kernel_rfl) rfl) (fun a' w' E => ob_binOp .neq 24 (.tmp 41) (.tmp 42) 24 rfl (E.new (v := (U pr)) 41 16 (by kernel_rfl) rfl) (E.new (v := (U pr)) 42 17 (by kernel_rfl) rfl) (by simp [go_sem, hE1]))
    (Obs.val (fun a' w' E => ob_pick (.tmp 40) (.const (.bool true)) (.tmp 43) rfl (E.new (v := (.bool false)) 40 15 (by kernel_rfl) rfl) (E.new (v := (.bool false)) 43 18 (by kernel_rfl) rfl))
    (Obs.val (fun a' w' E => ob_move (.tmp 44) rfl (E.new (v := (.bool false)) 44 19 (by kernel_rfl) rfl))
    (Obs.gval rfl rfl (fun a' w' E => E.new 45 20 (by kernel_rfl) rfl) (fun a' w' E => ob_fcall 14 _ _ rfl (am0) (fc14 _ _) (hN1.out w'))
    (Obs.gval rfl rfl (fun a' w' E => E.new 45 20 (by kernel_rfl) rfl) (fun a' w' E => ob_fcall 15 _ _ rfl (am0) (fc15 _ _) (hN2.out w'))
    (Obs.gval rfl rfl (fun a' w' E => E.new 45 20 (by kernel_rfl) rfl) (fun a' w' E => ob_binOp .neq 24 (.tmp 46) (.tmp 47) 24 rfl (E.new (v := (U od)) 46 21 (by kernel_rfl) rfl) (E.new (v := (U od)) 47 22 (by kernel_rfl) rfl) (by simp [go_sem, hE2]))
    (Obs.val (fun a' w' E => ob_pick (.tmp 45) (.const (.bool true)) (.tmp 48) rfl (E.new (v := (.bool false)) 45 20 (by kernel_rfl) rfl) (E.new (v := (.bool false)) 48 23 (by kernel_rfl) rfl))
    (Obs.val (fun a' w' E => ob_move (.tmp 49) rfl (E.new (v := (.bool false)) 49 24 (by kernel_rfl) rfl))
    (Obs.gval rfl rfl (fun a' w' E => E.new 50 25 (by kernel_rfl) rfl) (fun a' w' E => ob_fcall 16 _ _ rfl (am0) (fc16 _ _) (hB1.out w'))
    (Obs.gval rfl rfl (fun a' w' E => E.new 50 25 (by kernel_rfl) rfl) (fun a' w' E => ob_fcall 17 _ _ rfl (am0) (fc17 _ _) (hB2.out w'))
    (Obs.gval rfl rfl (fun a' w' E => E.new 50 25 (by kernel_rfl) rfl) (fun a' w' E => ob_binOp .neq 26 (.tmp 51) (.tmp 52) 26 rfl (E.new (v := (A9 gx gy gn)) 51 26 (by kernel_rfl) rfl) (E.new (v := (A9 gx gy gn)) 52 27 (by kernel_rfl) rfl) (by simp [go_sem, hE3]))
    (Obs.val (fun a' w' E => ob_pick (.tmp 50) (.const (.bool true)) (.tmp 53) rfl (E.new (v := (.bool false)) 50 25 (by kernel_rfl) rfl) (E.new (v := (.bool false)) 53 28 (by kernel_rfl) rfl))
    Obs.nil)))))))))))))))))))))))))))))) ?_
  intro bs w3 aZ haZ F
  have eZ : aZ = ({ tmps := #[(A9 px py pn), (A9 qx qy qn), (U x), (.bool odd), (PT w.heap.size), (PT (w.heap.size + 1)), (PT (w.heap.size + 1 + 1)), undef, (.bool false), (PT g1_6), (.bool lo), (PT g2_6), (.bool lo), (.tuple #[(A9 lx ly ln), (.bool lo)]), (U x), (.bool odd), (.tuple #[(A9 lx ly ln), (.bool lo)]), (A9 lx ly ln), (.bool lo), (.tuple #[(A9 lx ly ln), (.bool lo)]), (U x), (.bool odd), (.tuple #[(A9 lx ly ln), (.bool lo)]), (A9 lx ly ln), (.bool lo), (A9 px py pn), (.bool true), (A9 px py pn), (.bool true), (.bool false), (.bool false), (A9 lx ly ln), (A9 lx ly ln), (.bool false), (.bool false), (.bool false), (.bool lo), (.bool lo), (.bool false), (.bool false), (.bool false), (U pr), (U pr), (.bool false), (.bool false), (.bool false), (U od), (U od), (.bool false), (.bool false), (.bool false), (A9 gx gy gn), (A9 gx gy gn), (.bool false), (.bool false), undef, undef, undef, undef, undef, undef, undef, undef, undef, undef, undef, undef, undef, undef, undef, undef, undef, undef, undef, undef, undef, undef, undef, undef, undef, undef, undef, undef, undef, undef, undef, undef, undef, undef, undef], defers := [] } : Act) := haZ.trans (by kernel_rfl)
  subst eZ
  clear haZ
  replace RR : Hid (RB w w3 [(g2_6, (P9 lx ly ln)), (g1_6, (P9 lx ly ln)), (w.heap.size + 1 + 1, (Ar x)), (w.heap.size + 1, (P9 qx qy qn)), (w.heap.size, (P9 px py pn))]) := ⟨F.bw, (RowsAt.cons (F.row 4 rfl) (RowsAt.cons (F.row 3 rfl) (RowsAt.cons (F.row 2 rfl) (RowsAt.cons (F.row 1 rfl) (RowsAt.cons (F.row 0 rfl) RowsAt.nil)))))⟩
  clear F qT q0 q1 q2 q3 q4
  go_upto_region 5 with fail
  obtain ⟨q4, q3, q2, q1, q0, qT⟩ := RR.out.r.lts
  refine wp_region_told (by kernel_rfl) (by kernel_rfl) (by kernel_rfl) [(w.heap.size, (P9 px py pn)), (w.heap.size + 1, (P9 qx qy qn)), (w.heap.size + 1 + 1, (Ar x)), (g1_6, (P9 lx ly ln)), (g2_6, (P9 lx ly ln))]
    [sV (A9 px py pn),
     sV (.bool true),
     sV (.bool false),
     sV (.bool false),
     sV (A9 qx qy qn),
     sV (.bool false),
     sV (.bool true),
     sV (.bool true)]
    (by kernel_rfl) RR.out.b (RowsAt.cons (RR.out.at 4 rfl) (RowsAt.cons (RR.out.at 3 rfl) (RowsAt.cons (RR.out.at 2 rfl) (RowsAt.cons (RR.out.at 1 rfl) (RowsAt.cons (RR.out.at 0 rfl) RowsAt.nil))))) (StOk.of [] rfl StM.nil)
    (Obs.val (fun a' w' E => ob_loada 26 (.tmp 4) rfl (E.old 4 (by kernel_rfl)) (E.row (g := w.heap.size) (c := (P9 px py pn)) 0 rfl) Try.underlying26 rfl (by kernel_rfl) rfl)
    (Obs.val (fun a' w' E => ob_fcall 11 _ _ rfl (am1 (E.new (v := (A9 px py pn)) 55 0 (by kernel_rfl) rfl)) (fc11 _ _) (hRp.out w'))
    (Obs.val (fun a' w' E => ob_unOp .not 4 (.tmp 56) rfl (E.new (v := (.bool true)) 56 1 (by kernel_rfl) rfl) (by simp [go_sem]))
    (Obs.val (fun a' w' E => ob_move (.tmp 57) rfl (E.new (v := (.bool false)) 57 2 (by kernel_rfl) rfl))
    (Obs.gval rfl rfl (fun a' w' E => E.new 58 3 (by kernel_rfl) rfl) (fun a' w' E => ob_loada 26 (.tmp 5) rfl (E.old 5 (by kernel_rfl)) (E.row (g := w.heap.size + 1) (c := (P9 qx qy qn)) 1 rfl) Try.underlying26 rfl (by kernel_rfl) rfl)
    (Obs.gval rfl rfl (fun a' w' E => E.new 58 3 (by kernel_rfl) rfl) (fun a' w' E => ob_fcall 11 _ _ rfl (am1 (E.new (v := (A9 qx qy qn)) 59 4 (by kernel_rfl) rfl)) (fc11 _ _) (hRq.out w'))
    (Obs.gval rfl rfl (fun a' w' E => E.new 58 3 (by kernel_rfl) rfl) (fun a' w' E => ob_unOp .not 4 (.tmp 60) rfl (E.new (v := (.bool false)) 60 5 (by kernel_rfl) rfl) (by simp [go_sem]))
    (Obs.val (fun a' w' E => ob_pick (.tmp 58) (.const (.bool true)) (.tmp 61) rfl (E.new (v := (.bool false)) 58 3 (by kernel_rfl) rfl) (E.new (v := (.bool true)) 61 6 (by kernel_rfl) rfl))
    Obs.nil)))))))) ?_
  intro bs w4 aZ haZ F
  have eZ : aZ = ({ tmps := #[(A9 px py pn), (A9 qx qy qn), (U x), (.bool odd), (PT w.heap.size), (PT (w.heap.size + 1)), (PT (w.heap.size + 1 + 1)), undef, (.bool false), (PT g1_6), (.bool lo), (PT g2_6), (.bool lo), (.tuple #[(A9 lx ly ln), (.bool lo)]), (U x), (.bool odd), (.tuple #[(A9 lx ly ln), (.bool lo)]), (A9 lx ly ln), (.bool lo), (.tuple #[(A9 lx ly ln), (.bool lo)]), (U x), (.bool odd), (.tuple #[(A9 lx ly ln), (.bool lo)]), (A9 lx ly ln), (.bool lo), (A9 px py pn), (.bool true), (A9 px py pn), (.bool true), (.bool false), (.bool false), (A9 lx ly ln), (A9 lx ly ln), (.bool false), (.bool false), (.bool false), (.bool lo), (.bool lo), (.bool false), (.bool false), (.bool false), (U pr), (U pr), (.bool false), (.bool false), (.bool false), (U od), (U od), (.bool false), (.bool false), (.bool false), (A9 gx gy gn), (A9 gx gy gn), (.bool false), (.bool false), (A9 px py pn), (.bool true), (.bool false), (.bool false), (A9 qx qy qn), (.bool false), (.bool true), (.bool true), undef, undef, undef, undef, undef, undef, undef, undef, undef, undef, undef, undef, undef, undef, undef, undef, undef, undef, undef, undef, undef, undef, undef, undef, undef, undef, undef], defers := [] } : Act) := haZ.trans (by kernel_rfl)
  subst eZ
  clear haZ
  replace RR : Hid (RB w w4 [(g2_6, (P9 lx ly ln)), (g1_6, (P9 lx ly ln)), (w.heap.size + 1 + 1, (Ar x)), (w.heap.size + 1, (P9 qx qy qn)), (w.heap.size, (P9 px py pn))]) := ⟨F.bw, (RowsAt.cons (F.row 4 rfl) (RowsAt.cons (F.row 3 rfl) (RowsAt.cons (F.row 2 rfl) (RowsAt.cons (F.row 1 rfl) (RowsAt.cons (F.row 0 rfl) RowsAt.nil)))))⟩
  clear F qT q0 q1 q2 q3 q4
  go_upto_region 6 with fail
  obtain ⟨q4, q3, q2, q1, q0, qT⟩ := RR.out.r.lts
  refine wp_region_told (by kernel_rfl) (by kernel_rfl) (by kernel_rfl) [(w.heap.size, (P9 px py pn)), (w.heap.size + 1, (P9 qx qy qn)), (w.heap.size + 1 + 1, (Ar x)), (g1_6, (P9 lx ly ln)), (g2_6, (P9 lx ly ln))]
    [sV (.bool true),
     sV (.bool true)]
    (by kernel_rfl) RR.out.b (RowsAt.cons (RR.out.at 4 rfl) (RowsAt.cons (RR.out.at 3 rfl) (RowsAt.cons (RR.out.at 2 rfl) (RowsAt.cons (RR.out.at 1 rfl) (RowsAt.cons (RR.out.at 0 rfl) RowsAt.nil))))) (StOk.of [] rfl StM.nil)
    (Obs.val (fun a' w' E => ob_fcall 18 _ _ rfl (am0) (fc18 _ _) (hW.out w'))
    (Obs.val (fun a' w' E => ob_assign (.tmp 63) rfl (E.new (v := (.bool true)) 63 0 (by kernel_rfl) rfl))
    Obs.nil)) ?_
  intro bs w5 aZ haZ F
  have eZ : aZ = ({ tmps := #[(A9 px py pn), (A9 qx qy qn), (U x), (.bool odd), (PT w.heap.size), (PT (w.heap.size + 1)), (PT (w.heap.size + 1 + 1)), undef, (.bool true), (PT g1_6), (.bool lo), (PT g2_6), (.bool lo), (.tuple #[(A9 lx ly ln), (.bool lo)]), (U x), (.bool odd), (.tuple #[(A9 lx ly ln), (.bool lo)]), (A9 lx ly ln), (.bool lo), (.tuple #[(A9 lx ly ln), (.bool lo)]), (U x), (.bool odd), (.tuple #[(A9 lx ly ln), (.bool lo)]), (A9 lx ly ln), (.bool lo), (A9 px py pn), (.bool true), (A9 px py pn), (.bool true), (.bool false), (.bool false), (A9 lx ly ln), (A9 lx ly ln), (.bool false), (.bool false), (.bool false), (.bool lo), (.bool lo), (.bool false), (.bool false), (.bool false), (U pr), (U pr), (.bool false), (.bool false), (.bool false), (U od), (U od), (.bool false), (.bool false), (.bool false), (A9 gx gy gn), (A9 gx gy gn), (.bool false), (.bool false), (A9 px py pn), (.bool true), (.bool false), (.bool false), (A9 qx qy qn), (.bool false), (.bool true), (.bool true), (.bool true), undef, undef, undef, undef, undef, undef, undef, undef, undef, undef, undef, undef, undef, undef, undef, undef, undef, undef, undef, undef, undef, undef, undef, undef, undef, undef], defers := [] } : Act) := haZ.trans (by kernel_rfl)
  subst eZ
  clear haZ
  replace RR : Hid (RB w w5 [(g2_6, (P9 lx ly ln)), (g1_6, (P9 lx ly ln)), (w.heap.size + 1 + 1, (Ar x)), (w.heap.size + 1, (P9 qx qy qn)), (w.heap.size, (P9 px py pn))]) := ⟨F.bw, (RowsAt.cons (F.row 4 rfl) (RowsAt.cons (F.row 3 rfl) (RowsAt.cons (F.row 2 rfl) (RowsAt.cons (F.row 1 rfl) (RowsAt.cons (F.row 0 rfl) RowsAt.nil)))))⟩
  clear F qT q0 q1 q2 q3 q4
  go_wp2
  exact bodyPost_ret (v := (.bool true)) (by simp [results, Try.results3, go_sem]) rfl ⟨rfl, RR.out.b⟩
set_option maxRecDepth 100000 in
set_option maxHeartbeats 4000000 in
theorem tells_c (px py qx qy lx ly gx gy mx my sx sy dx dy : Nat) (pn qn ln gn mn sn dn : Bool) (x pr od : Nat) (odd lo : Bool) (hL : Does 8 #[(U x), (.bool odd)] (.tuple #[(A9 lx ly ln), (.bool lo)])) (hL2 : Does 9 #[(U x), (.bool odd)] (.tuple #[(A9 lx ly ln), (.bool lo)])) (hOp : Does 10 #[(A9 px py pn)] (.bool true)) (hRp : Does 11 #[(A9 px py pn)] (.bool true)) (hP1 : Does 12 #[] (U pr)) (hP2 : Does 13 #[] (U pr)) (hN1 : Does 14 #[] (U od)) (hN2 : Does 15 #[] (U od)) (hB1 : Does 16 #[] (A9 gx gy gn)) (hB2 : Does 17 #[] (A9 gx gy gn)) (hRq : Does 11 #[(A9 qx qy qn)] (.bool true)) (hG1 : Does 19 #[(A9 px py pn)] (A9 mx my mn)) (hG2 : Does 20 #[(A9 px py pn)] (A9 mx my mn)) (hA1 : Does 21 #[(A9 px py pn), (A9 qx qy qn)] (A9 sx sy sn)) (hA2 : Does 22 #[(A9 px py pn), (A9 qx qy qn)] (A9 sx sy sn)) (hA3 : Does 21 #[(A9 px py pn), (A9 px py pn)] (A9 dx dy dn)) (hA4 : Does 22 #[(A9 px py pn), (A9 px py pn)] (A9 dx dy dn)) (hW : Does 18 #[] (.bool true)) (hE0 : ∀ w, (Op.equalIn 10000 26 (A9 lx ly ln) (A9 lx ly ln)).run Try.prog w = .ok true w) (hE1 : ∀ w, (Op.equalIn 10000 24 (U pr) (U pr)).run Try.prog w = .ok true w) (hE2 : ∀ w, (Op.equalIn 10000 24 (U od) (U od)).run Try.prog w = .ok true w) (hE3 : ∀ w, (Op.equalIn 10000 26 (A9 gx gy gn) (A9 gx gy gn)).run Try.prog w = .ok true w) (hE4 : ∀ w, (Op.equalIn 10000 26 (A9 mx my mn) (A9 mx my mn)).run Try.prog w = .ok true w) (hE5 : ∀ w, (Op.equalIn 10000 26 (A9 sx sy sn) (A9 sx sy sn)).run Try.prog w = .ok true w) (hE6 : ∀ w, (Op.equalIn 10000 26 (A9 dx dy dn) (A9 dx dy dn)).run Try.prog w = .ok true w)
    (w : World) : Calls Try.prog 3 #[(A9 px py pn), (A9 qx qy qn), (U x), (.bool odd)] w fun e w' => e = .returned (.bool true) ∧ Below w.heap.size w w' := by
  go_enter Try.func3, Try.ntmps3
  go_upto_region 1 with fail
  refine name_world _ ?_
  intro wF hF0
  have RR : Hid (RB w wF [(w.heap.size + 1 + 1, (Ar x)), (w.heap.size + 1, (P9 qx qy qn)), (w.heap.size, (P9 px py pn))]) := by rw [hF0]; exact (rbN (rbN (rbN (rb0 w) (by simp)) (by simp)) (by simp))
  clear hF0
  obtain ⟨q2, q1, q0, qT⟩ := RR.out.r.lts
  refine wp_region_told (by kernel_rfl) (by kernel_rfl) (by kernel_rfl) [(w.heap.size, (P9 px py pn)), (w.heap.size + 1, (P9 qx qy qn)), (w.heap.size + 1 + 1, (Ar x))]
    [sV (U x),
     sV (.bool odd),
     sV (.tuple #[(A9 lx ly ln), (.bool lo)]),
     sV (.tuple #[(A9 lx ly ln), (.bool lo)]),
     sV (A9 lx ly ln),
     sV (.bool lo),
     sA (fun g => .pointer (some ⟨g, 0, none⟩)) 7 Z9 (P9 lx ly ln),
     sS 6,
     sV (.bool lo)]
    (by kernel_rfl) RR.out.b (RowsAt.cons (RR.out.at 2 rfl) (RowsAt.cons (RR.out.at 1 rfl) (RowsAt.cons (RR.out.at 0 rfl) RowsAt.nil))) (StOk.of [] rfl StM.nil)
    (Obs.val (fun a' w' E => ob_loada 24 (.tmp 6) rfl (E.old 6 (by kernel_rfl)) (E.row (g := w.heap.size + 1 + 1) (c := (Ar x)) 2 rfl) Try.underlying24 rfl (by kernel_rfl) rfl)
    (Obs.val (fun a' w' E => ob_move (.tmp 3) rfl (E.old 3 (by kernel_rfl)))
    (Obs.val (fun a' w' E => ob_fcall 8 _ _ rfl (am2 (E.new (v := (U x)) 14 0 (by kernel_rfl) rfl) (E.new (v := (.bool odd)) 15 1 (by kernel_rfl) rfl)) (fc8 _ _) (hL.out w'))
    (Obs.val (fun a' w' E => ob_move (.tmp 16) rfl (E.new (v := (.tuple #[(A9 lx ly ln), (.bool lo)])) 16 2 (by kernel_rfl) rfl))
    (Obs.val (fun a' w' E => ob_extract (.tmp 13) 0 rfl (E.new (v := (.tuple #[(A9 lx ly ln), (.bool lo)])) 13 3 (by kernel_rfl) rfl) rfl)
    (Obs.val (fun a' w' E => ob_extract (.tmp 13) 1 rfl (E.new (v := (.tuple #[(A9 lx ly ln), (.bool lo)])) 13 3 (by kernel_rfl) rfl) rfl)
    (Obs.alloc (fun a' w' E => ob_alloc (t := 26) (by simp [opAt, execOp, go_sem]))
    (Obs.sta rfl (fun a' w' g E ha hr => ob_storea 26 (.tmp 9) (.tmp 17) rfl (ha 9 (by kernel_rfl)) (E.new (v := (A9 lx ly ln)) 17 4 (by kernel_rfl) rfl) rfl hr (by kernel_rfl) (Nat.le_of_ble_eq_true rfl) (by kernel_rfl) rfl)
    (Obs.val (fun a' w' E => ob_assign (.tmp 18) rfl (E.new (v := (.bool lo)) 18 5 (by kernel_rfl) rfl))
    Obs.nil))))))))) ?_
  intro bs w1 aZ haZ F
  have eZ : aZ = ({ tmps := #[(A9 px py pn), (A9 qx qy qn), (U x), (.bool odd), (PT w.heap.size), (PT (w.heap.size + 1)), (PT (w.heap.size + 1 + 1)), undef, (.bool false), (PT ((bs 6))), (.bool lo), undef, undef, (.tuple #[(A9 lx ly ln), (.bool lo)]), (U x), (.bool odd), (.tuple #[(A9 lx ly ln), (.bool lo)]), (A9 lx ly ln), (.bool lo), undef, undef, undef, undef, undef, undef, undef, undef, undef, undef, undef, undef, undef, undef, undef, undef, undef, undef, undef, undef, undef, undef, undef, undef, undef, undef, undef, undef, undef, undef, undef, undef, undef, undef, undef, undef, undef, undef, undef, undef, undef, undef, undef, undef, undef, undef, undef, undef, undef, undef, undef, undef, undef, undef, undef, undef, undef, undef, undef, undef, undef, undef, undef, undef, undef, undef, undef, undef, undef, undef, undef], defers := [] } : Act) := haZ.trans (by kernel_rfl)
  subst eZ
  clear haZ
  obtain ⟨h6, X6⟩ := F.al 6 rfl rfl
  replace RR : Hid (RB w w1 [((bs 6), (P9 lx ly ln)), (w.heap.size + 1 + 1, (Ar x)), (w.heap.size + 1, (P9 qx qy qn)), (w.heap.size, (P9 px py pn))]) := ⟨F.bw, (RowsAt.cons X6 (RowsAt.cons (F.row 2 rfl) (RowsAt.cons (F.row 1 rfl) (RowsAt.cons (F.row 0 rfl) RowsAt.nil))))⟩
  generalize bs 6 = g1_6 at *
  have k1_6_0 := Nat.lt_of_lt_of_le q0 h6
  have k1_6_1 := Nat.lt_of_lt_of_le q1 h6
  have k1_6_2 := Nat.lt_of_lt_of_le q2 h6
  clear F qT q0 q1 q2 h6 X6
  clear wF
  go_upto_region 2 with fail
  obtain ⟨q3, q2, q1, q0, qT⟩ := RR.out.r.lts
  refine wp_region_told (by kernel_rfl) (by kernel_rfl) (by kernel_rfl) [(w.heap.size, (P9 px py pn)), (w.heap.size + 1, (P9 qx qy qn)), (w.heap.size + 1 + 1, (Ar x)), (g1_6, (P9 lx ly ln))]
    [sV (U x),
     sV (.bool odd),
     sV (.tuple #[(A9 lx ly ln), (.bool lo)]),
     sV (.tuple #[(A9 lx ly ln), (.bool lo)]),
     sV (A9 lx ly ln),
     sV (.bool lo),
     sA (fun g => .pointer (some ⟨g, 0, none⟩)) 7 Z9 (P9 lx ly ln),
     sS 6,
     sV (.bool lo)]
    (by kernel_rfl) RR.out.b (RowsAt.cons (RR.out.at 3 rfl) (RowsAt.cons (RR.out.at 2 rfl) (RowsAt.cons (RR.out.at 1 rfl) (RowsAt.cons (RR.out.at 0 rfl) RowsAt.nil)))) (StOk.of [] rfl StM.nil)
    (Obs.val (fun a' w' E => ob_loada 24 (.tmp 6) rfl (E.old 6 (by kernel_rfl)) (E.row (g := w.heap.size + 1 + 1) (c := (Ar x)) 2 rfl) Try.underlying24 rfl (by kernel_rfl) rfl)
    (Obs.val (fun a' w' E => ob_move (.tmp 3) rfl (E.old 3 (by kernel_rfl)))
    (Obs.val (fun a' w' E => ob_fcall 9 _ _ rfl (am2 (E.new (v := (U x)) 20 0 (by kernel_rfl) rfl) (E.new (v := (.bool odd)) 21 1 (by kernel_rfl) rfl)) (fc9 _ _) (hL2.out w'))
    (Obs.val (fun a' w' E => ob_move (.tmp 22) rfl (E.new (v := (.tuple #[(A9 lx ly ln), (.bool lo)])) 22 2 (by kernel_rfl) rfl))
    (Obs.val (fun a' w' E => ob_extract (.tmp 19) 0 rfl (E.new (v := (.tuple #[(A9 lx ly ln), (.bool lo)])) 19 3 (by kernel_rfl) rfl) rfl)
    (Obs.val (fun a' w' E => ob_extract (.tmp 19) 1 rfl (E.new (v := (.tuple #[(A9 lx ly ln), (.bool lo)])) 19 3 (by kernel_rfl) rfl) rfl)
    (Obs.alloc (fun a' w' E => ob_alloc (t := 26) (by simp [opAt, execOp, go_sem]))
    (Obs.sta rfl (fun a' w' g E ha hr => ob_storea 26 (.tmp 11) (.tmp 23) rfl (ha 11 (by kernel_rfl)) (E.new (v := (A9 lx ly ln)) 23 4 (by kernel_rfl) rfl) rfl hr (by kernel_rfl) (Nat.le_of_ble_eq_true rfl) (by kernel_rfl) rfl)
    (Obs.val (fun a' w' E => ob_assign (.tmp 24) rfl (E.new (v := (.bool lo)) 24 5 (by kernel_rfl) rfl))
    Obs.nil))))))))) ?_
  intro bs w2 aZ haZ F
  have eZ : aZ = ({ tmps := #[(A9 px py pn), (A9 qx qy qn), (U x), (.bool odd), (PT w.heap.size), (PT (w.heap.size + 1)), (PT (w.heap.size + 1 + 1)), undef, (.bool false), (PT g1_6), (.bool lo), (PT ((bs 6))), (.bool lo), (.tuple #[(A9 lx ly ln), (.bool lo)]), (U x), (.bool odd), (.tuple #[(A9 lx ly ln), (.bool lo)]), (A9 lx ly ln), (.bool lo), (.tuple #[(A9 lx ly ln), (.bool lo)]), (U x), (.bool odd), (.tuple #[(A9 lx ly ln), (.bool lo)]), (A9 lx ly ln), (.bool lo), undef, undef, undef, undef, undef, undef, undef, undef, undef, undef, undef, undef, undef, undef, undef, undef, undef, undef, undef, undef, undef, undef, undef, undef, undef, undef, undef, undef, undef, undef, undef, undef, undef, undef, undef, undef, undef, undef, undef, undef, undef, undef, undef, undef, undef, undef, undef, undef, undef, undef, undef, undef, undef, undef, undef, undef, undef, undef, undef, undef, undef, undef, undef, undef, undef], defers := [] } : Act) := haZ.trans (by kernel_rfl)
  subst eZ
  clear haZ
  obtain ⟨h6, X6⟩ := F.al 6 rfl rfl
  replace RR : Hid (RB w w2 [((bs 6), (P9 lx ly ln)), (g1_6, (P9 lx ly ln)), (w.heap.size + 1 + 1, (Ar x)), (w.heap.size + 1, (P9 qx qy qn)), (w.heap.size, (P9 px py pn))]) := ⟨F.bw, (RowsAt.cons X6 (RowsAt.cons (F.row 3 rfl) (RowsAt.cons (F.row 2 rfl) (RowsAt.cons (F.row 1 rfl) (RowsAt.cons (F.row 0 rfl) RowsAt.nil)))))⟩
  generalize bs 6 = g2_6 at *
  have k2_6_0 := Nat.lt_of_lt_of_le q0 h6
  have k2_6_1 := Nat.lt_of_lt_of_le q1 h6
  have k2_6_2 := Nat.lt_of_lt_of_le q2 h6
  have k2_6_3 := Nat.lt_of_lt_of_le q3 h6
  clear F qT q0 q1 q2 q3 h6 X6
  go_upto_region 3 with fail
  obtain ⟨q4, q3, q2, q1, q0, qT⟩ := RR.out.r.lts
  refine wp_region_told (by kernel_rfl) (by kernel_rfl) (by kernel_rfl) [(w.heap.size, (P9 px py pn)), (w.heap.size + 1, (P9 qx qy qn)), (w.heap.size + 1 + 1, (Ar x)), (g1_6, (P9 lx ly ln)), (g2_6, (P9 lx ly ln))]
    [sV (A9 px py pn),
     sV (.bool true),
     sV (A9 px py pn),
     sV (.bool true),
     sV (.bool false),
     sV (.bool false),
     sV (A9 lx ly ln),
     sV (A9 lx ly ln),
     sV (.bool false),
     sV (.bool false),
     sV (.bool false),
     sV (.bool lo),
     sV (.bool lo),
     sV (.bool false),
     sV (.bool false),
     sV (.bool false),
     sV (U pr),
     sV (U pr),
     sV (.bool false),
     sV (.bool false),
     sV (.bool false),
     sV (U od),
     sV (U od),
     sV (.bool false),
     sV (.bool false),
     sV (.bool false),
     sV (A9 gx gy gn),
     sV (A9 gx gy gn),
     sV (.bool false),
     sV (.bool false)]
    (by kernel_rfl) RR.out.b (RowsAt.cons (RR.out.at 4 rfl) (RowsAt.cons (RR.out.at 3 rfl) (RowsAt.cons (RR.out.at 2 rfl) (RowsAt.cons (RR.out.at 1 rfl) (RowsAt.cons (RR.out.at 0 rfl) RowsAt.nil))))) (StOk.of [] rfl StM.nil)
    (Obs.val (fun a' w' E => ob_loada 26 (.tmp 4) rfl (E.old 4 (by kernel_rfl)) (E.row (g := w.heap.size) (c := (P9 px py pn)) 0 rfl) Try.underlying26 rfl (by kernel_rfl) rfl)
    (Obs.val (fun a' w' E => ob_fcall 10 _ _ rfl (am1 (E.new (v := (A9 px py pn)) 25 0 (by kernel_rfl) rfl)) (fc10 _ _) (hOp.out w'))
    (Obs.val (fun a' w' E => ob_loada 26 (.tmp 4) rfl (E.old 4 (by kernel_rfl)) (E.row (g := w.heap.size) (c := (P9 px py pn)) 0 rfl) Try.underlying26 rfl (by kernel_rfl) rfl)
    (Obs.val (fun a' w' E => ob_fcall 11 _ _ rfl (am1 (E.new (v := (A9 px py pn)) 27 2 (by kernel_rfl) rfl)) (fc11 _ _) (hRp.out w'))
    (Obs.val (fun a' w' E => ob_binOp .neq 4 (.tmp 26) (.tmp 28) 4 rfl (E.new (v := (.bool true)) 26 1 (by kernel_rfl) rfl) (E.new (v := (.bool true)) 28 3 (by kernel_rfl) rfl) (by simp [go_sem]))
    (Obs.val (fun a' w' E => ob_move (.tmp 29) rfl (E.new (v := (.bool false)) 29 4 (by kernel_rfl) rfl))
    (Obs.gval rfl rfl (fun a' w' E => E.new 30 5 (by kernel_rfl) rfl) (fun a' w' E => ob_loada 26 (.tmp 9) rfl (E.old 9 (by kernel_rfl)) (E.row (g := g1_6) (c := (P9 lx ly ln)) 3 rfl) Try.underlying26 rfl (by kernel_rfl) rfl)
    (Obs.gval rfl rfl (fun a' w' E => E.new 30 5 (by kernel_rfl) rfl) (fun a' w' E => ob_loada 26 (.tmp 11) rfl (E.old 11 (by kernel_rfl)) (E.row (g := g2_6) (c := (P9 lx ly ln)) 4 rfl) Try.underlying26 rfl (by kernel_rfl) rfl)
    (Obs.gval rfl rfl (fun a' w' E => E.new 30 5 (by kernel_rfl) rfl) (fun a' w' E => ob_binOp .neq 26 (.tmp 31) (.tmp 32) 26 rfl (E.new (v := (A9 lx ly ln)) 31 6 (by kernel_rfl) rfl) (E.new (v := (A9 lx ly ln)) 32 7 (by kernel_rfl) rfl) (by simp [go_sem, hE0]))
    (Obs.val (fun a' w' E => ob_pick (.tmp 30) (.const (.bool true)) (.tmp 33) rfl (E.new (v := (.bool false)) 30 5 (by kernel_rfl) rfl) (E.new (v := (.bool false)) 33 8 (by kernel_rfl) rfl))
    (Obs.val (fun a' w' E => ob_move (.tmp 34) rfl (E.new (v := (.bool false)) 34 9 (by kernel_rfl) rfl))
    (Obs.gval rfl rfl (fun a' w' E => E.new 35 10 (by kernel_rfl) rfl) (fun a' w' E => ob_move (.tmp 10) rfl (E.old 10 (by kernel_rfl)))
    (Obs.gval rfl rfl (fun a' w' E => E.new 35 10 (by kernel_rfl) rfl) (fun a' w' E => ob_move (.tmp 12) rfl (E.old 12 (by kernel_rfl)))
    (Obs.gval rfl rfl (fun a' w' E => E.new 35 10 (by kernel_rfl) rfl) (fun a' w' E => ob_binOp .neq 4 (.tmp 36) (.tmp 37) 4 rfl (E.new (v := (.bool lo)) 36 11 (by kernel_rfl) rfl) (E.new (v := (.bool lo)) 37 12 (by kernel_rfl) rfl) (by simp [go_sem]))
    (Obs.val (fun a' w' E => ob_pick (.tmp 35) (.const (.bool true)) (.tmp 38) rfl (E.new (v := (.bool false)) 35 10 (by kernel_rfl) rfl) (E.new (v := (.bool false)) 38 13 (by kernel_rfl) rfl))
    (Obs.val (fun a' w' E => ob_move (.tmp 39) rfl (E.new (v := (.bool false)) 39 14 (by kernel_rfl) rfl))
    (Obs.gval rfl rfl (fun a' w' E => E.new 40 15 (by kernel_rfl) rfl) (fun a' w' E => ob_fcall 12 _ _ rfl (am0) (fc12 _ _) (hP1.out w'))
    (Obs.gval rfl rfl (fun a' w' E => E.new 40 15 (by kernel_rfl) rfl) (fun a' w' E => ob_fcall 13 _ _ rfl (am0) (fc13 _ _) (hP2.out w'))
    (Obs.gval rfl rfl (fun a' w' E => E.new 40 15 (by kernel_rfl) rfl) (fun a' w' E => ob_binOp .neq 24 (.tmp 41) (.tmp 42) 24 rfl (E.new (v := (U pr)) 41 16 (by kernel_rfl) rfl) (E.new (v := (U pr)) 42 17 (by kernel_rfl) rfl) (by simp [go_sem, hE1]))
    (Obs.val (fun a' w' E => ob_pick (.tmp 40) (.const (.bool true)) (.tmp 43) rfl (E.new (v := (.bool false)) 40 15 (by kernel_rfl) rfl) (E.new (v := (.bool false)) 43 18 (by kernel_rfl) rfl))
    (Obs.val (fun a' w' E => ob_move (.tmp 44) rfl (E.new (v := (.bool false)) 44 19 (by kernel_rfl) rfl))
    (Obs.gval rfl rfl (fun a' w' E => E.new 45 20 (by kernel_rfl) rfl) (fun a' w' E => ob_fcall 14 _ _ rfl (am0) (fc14 _ _) (hN1.out w'))
    (Obs.gval rfl rfl (fun a' w' E => E.new 45 20 (by kernel_rfl) rfl) (fun a' w' E => ob_fcall 15 _ _ rfl (am0) (fc15 _ _) (hN2.out w'))
    (Obs.gval rfl rfl (fun a' w' E => E.new 45 20 (by kernel_rfl) rfl) (fun a' w' E => ob_binOp .neq 24 (.tmp 46) (.tmp 47) 24 rfl (E.new (v := (U od)) 46 21 (by kernel_rfl) rfl) (E.new (v := (U od)) 47 22 (by kernel_rfl) rfl) (by simp [go_sem, hE2]))
    (Obs.val (fun a' w' E => ob_pick (.tmp 45) (.const (.bool true)) (.tmp 48) rfl (E.new (v := (.bool false)) 45 20 (by kernel_rfl) rfl) (E.new (v := (.bool false)) 48 23 (by kernel_rfl) rfl))
    (Obs.val (fun a' w' E => ob_move (.tmp 49) rfl (E.new (v := (.bool false)) 49 24 (by kernel_rfl) rfl))
    (Obs.gval rfl rfl (fun a' w' E => E.new 50 25 (by kernel_rfl) rfl) (fun a' w' E => ob_fcall 16 _ _ rfl (am0) (fc16 _ _) (hB1.out w'))
    (Obs.gval rfl rfl (fun a' w' E => E.new 50 25 (by kernel_rfl) rfl) (fun a' w' E => ob_fcall 17 _ _ rfl (am0) (fc17 _ _) (hB2.out w'))
    (Obs.gval rfl rfl (fun a' w' E => E.new 50 25 (by kernel_rfl) rfl) (fun a' w' E => ob_binOp .neq 26 (.tmp 51) (.tmp 52) 26 rfl (E.new (v := (A9 gx gy gn)) 51 26 (by kernel_rfl) rfl) (E.new (v := (A9 gx gy gn)) 52 27 (by kernel_rfl) rfl) (by simp [go_sem, hE3]))
    (Obs.val (fun a' w' E => ob_pick (.tmp 50) (.const (.bool true)) (.tmp 53) rfl (E.new (v := (.bool false)) 50 25 (by kernel_rfl) rfl) (E.new (v := (.bool false)) 53 28 (by kernel_rfl) rfl))
    Obs.nil)))))))))))))))))))))))))))))) ?_
  intro bs w3 aZ haZ F
  have eZ : aZ = ({ tmps := #[(A9 px py pn), (A9 qx qy qn), (U x), (.bool odd), (PT w.heap.size), (PT (w.heap.size + 1)), (PT (w.heap.size + 1 + 1)), undef, (.bool false), (PT g1_6), (.bool lo), (PT g2_6), (.bool lo), (.tuple #[(A9 lx ly ln), (.bool lo)]), (U x), (.bool odd), (.tuple #[(A9 lx ly ln), (.bool lo)]), (A9 lx ly ln), (.bool lo), (.tuple #[(A9 lx ly ln), (.bool lo)]), (U x), (.bool odd), (.tuple #[(A9 lx ly ln), (.bool lo)]), (A9 lx ly ln), (.bool lo), (A9 px py pn), (.bool true), (A9 px py pn), (.bool true), (.bool false), (.bool false), (A9 lx ly ln), (A9 lx ly ln), (.bool false), (.bool false), (.bool false), (.bool lo), (.bool lo), (.bool false), (.bool false), (.bool false), (U pr), (U pr), (.bool false), (.bool false), (.bool false), (U od), (U od), (.bool false), (.bool false), (.bool false), (A9 gx gy gn), (A9 gx gy gn), (.bool false), (.bool false), undef, undef, undef, undef, undef, undef, undef, undef, undef, undef, undef, undef, undef, undef, undef, undef, undef, undef, undef, undef, undef, undef, undef, undef, undef, undef, undef, undef, undef, undef, undef, undef, undef, undef, undef], defers := [] } : Act) := haZ.trans (by kernel_rfl)
  subst eZ
  clear haZ
  replace RR : Hid (RB w w3 [(g2_6, (P9 lx ly ln)), (g1_6, (P9 lx ly ln)), (w.heap.size + 1 + 1, (Ar x)), (w.heap.size + 1, (P9 qx qy qn)), (w.heap.size, (P9 px py pn))]) := ⟨F.bw, (RowsAt.cons (F.row 4 rfl) (RowsAt.cons (F.row 3 rfl) (RowsAt.cons (F.row 2 rfl) (RowsAt.cons (F.row 1 rfl) (RowsAt.cons (F.row 0 rfl) RowsAt.nil)))))⟩
  clear F qT q0 q1 q2 q3 q4
  go_upto_region 5 with fail
  obtain ⟨q4, q3, q2, q1, q0, qT⟩ := RR.out.r.lts
  refine wp_region_told (by kernel_rfl) (by kernel_rfl) (by kernel_rfl) [(w.heap.size, (P9 px py pn)), (w.heap.size + 1, (P9 qx qy qn)), (w.heap.size + 1 + 1, (Ar x)), (g1_6, (P9 lx ly ln)), (g2_6, (P9 lx ly ln))]
    [sV (A9 px py pn),
     sV (.bool true),
     sV (.bool false),
     sV (.bool false),
     sV (A9 qx qy qn),
     sV (.bool true),
     sV (.bool false),
     sV (.bool false)]
    (by kernel_rfl) RR.out.b (RowsAt.cons (RR.out.at 4 rfl) (RowsAt.cons (RR.out.at 3 rfl) (RowsAt.cons (RR.out.at 2 rfl) (RowsAt.cons (RR.out.at 1 rfl) (RowsAt.cons (RR.out.at 0 rfl) RowsAt.nil))))) (StOk.of [] rfl StM.nil)
    (Obs.val (fun a' w' E => ob_loada 26 (.tmp 4) rfl (E.old 4 (by kernel_rfl)) (E.row (g := w.heap.size) (c := (P9 px py pn)) 0 rfl) Try.underlying26 rfl (by kernel_rfl) rfl)
    (Obs.val (fun a' w' E => ob_fcall 11 _ _ rfl (am1 (E.new (v := (A9 px py pn)) 55 0 (by kernel_rfl) rfl)) (fc11 _ _) (hRp.out w'))
    (Obs.val (fun a' w' E => ob_unOp .not 4 (.tmp 56) rfl (E.new (v := (.bool true)) 56 1 (by kernel_rfl) rfl) (by simp [go_sem]))
    (Obs.val (fun a' w' E => ob_move (.tmp 57) rfl (E.new (v := (.bool false)) 57 2 (by kernel_rfl) rfl))
    (Obs.gval rfl rfl (fun a' w' E => E.new 58 3 (by kernel_rfl) rfl) (fun a' w' E => ob_loada 26 (.tmp 5) rfl (E.old 5 (by kernel_rfl)) (E.row (g := w.heap.size + 1) (c := (P9 qx qy qn)) 1 rfl) Try.underlying26 rfl (by kernel_rfl) rfl)
    (Obs.gval rfl rfl (fun a' w' E => E.new 58 3 (by kernel_rfl) rfl) (fun a' w' E => ob_fcall 11 _ _ rfl (am1 (E.new (v := (A9 qx qy qn)) 59 4 (by kernel_rfl) rfl)) (fc11 _ _) (hRq.out w'))
    (Obs.gval rfl rfl (fun a' w' E => E.new 58 3 (by kernel_rfl) rfl) (fun a' w' E => ob_unOp .not 4 (.tmp 60) rfl (E.new (v := (.bool true)) 60 5 (by kernel_rfl) rfl) (by simp [go_sem]))
    (Obs.val (fun a' w' E => ob_pick (.tmp 58) (.const (.bool true)) (.tmp 61) rfl (E.new (v := (.bool false)) 58 3 (by kernel_rfl) rfl) (E.new (v := (.bool false)) 61 6 (by kernel_rfl) rfl))
    Obs.nil)))))))) ?_
  intro bs w4 aZ haZ F
  have eZ : aZ = ({ tmps := #[(A9 px py pn), (A9 qx qy qn), (U x), (.bool odd), (PT w.heap.size), (PT (w.heap.size + 1)), (PT (w.heap.size + 1 + 1)), undef, (.bool false), (PT g1_6), (.bool lo), (PT g2_6), (.bool lo), (.tuple #[(A9 lx ly ln), (.bool lo)]), (U x), (.bool odd), (.tuple #[(A9 lx ly ln), (.bool lo)]), (A9 lx ly ln), (.bool lo), (.tuple #[(A9 lx ly ln), (.bool lo)]), (U x), (.bool odd), (.tuple #[(A9 lx ly ln), (.bool lo)]), (A9 lx ly ln), (.bool lo), (A9 px py pn), (.bool true), (A9 px py pn), (.bool true), (.bool false), (.bool false), (A9 lx ly ln), (A9 lx ly ln), (.bool false), (.bool false), (.bool false), (.bool lo), (.bool lo), (.bool false), (.bool false), (.bool false), (U pr), (U pr), (.bool false), (.bool false), (.bool false), (U od), (U od), (.bool false), (.bool false), (.bool false), (A9 gx gy gn), (A9 gx gy gn), (.bool false), (.bool false), (A9 px py pn), (.bool true), (.bool false), (.bool false), (A9 qx qy qn), (.bool true), (.bool false), (.bool false), undef, undef, undef, undef, undef, undef, undef, undef, undef, undef, undef, undef, undef, undef, undef, undef, undef, undef, undef, undef, undef, undef, undef, undef, undef, undef, undef], defers := [] } : Act) := haZ.trans (by kernel_rfl)
  subst eZ
  clear haZ
  replace RR : Hid (RB w w4 [(g2_6, (P9 lx ly ln)), (g1_6, (P9 lx ly ln)), (w.heap.size + 1 + 1, (Ar x)), (w.heap.size + 1, (P9 qx qy qn)), (w.heap.size, (P9 px py pn))]) := ⟨F.bw, (RowsAt.cons (F.row 4 rfl) (RowsAt.cons (F.row 3 rfl) (RowsAt.cons (F.row 2 rfl) (RowsAt.cons (F.row 1 rfl) (RowsAt.cons (F.row 0 rfl) RowsAt.nil)))))⟩
  clear F qT q0 q1 q2 q3 q4
  go_upto_region 7 with fail
  obtain ⟨q4, q3, q2, q1, q0, qT⟩ := RR.out.r.lts
  refine wp_region_told (by kernel_rfl) (by kernel_rfl) (by kernel_rfl) [(w.heap.size, (P9 px py pn)), (w.heap.size + 1, (P9 qx qy qn)), (w.heap.size + 1 + 1, (Ar x)), (g1_6, (P9 lx ly ln)), (g2_6, (P9 lx ly ln))]
    [sV (A9 px py pn),
     sV (A9 mx my mn),
     sV (A9 px py pn),
     sV (A9 mx my mn),
     sV (.bool true),
     sV (.bool true),
     sV (A9 px py pn),
     sV (A9 qx qy qn),
     sV (A9 sx sy sn),
     sV (A9 px py pn),
     sV (A9 qx qy qn),
     sV (A9 sx sy sn),
     sV (.bool true),
     sV (.bool true),
     sV (.bool true),
     sV (A9 px py pn),
     sV (A9 px py pn),
     sV (A9 dx dy dn),
     sV (A9 px py pn),
     sV (A9 px py pn),
     sV (A9 dx dy dn),
     sV (.bool true),
     sV (.bool true),
     sV (.bool true),
     sV (.bool true),
     sV (.bool true),
     sV (.bool true)]
    (by kernel_rfl) RR.out.b (RowsAt.cons (RR.out.at 4 rfl) (RowsAt.cons (RR.out.at 3 rfl) (RowsAt.cons (RR.out.at 2 rfl) (RowsAt.cons (RR.out.at 1 rfl) (RowsAt.cons (RR.out.at 0 rfl) RowsAt.nil))))) (StOk.of [] rfl StM.nil)
    (Obs.val (fun a' w' E => ob_loada 26 (.tmp 4) rfl (E.old 4 (by kernel_rfl)) (E.row (g := w.heap.size) (c := (P9 px py pn)) 0 rfl) Try.underlying26 rfl (by kernel_rfl) rfl)
    (Obs.val (fun a' w' E => ob_fcall 19 _ _ rfl (am1 (E.new (v := (A9 px py pn)) 64 0 (by kernel_rfl) rfl)) (fc19 _ _) (hG1.out w'))
    (Obs.val (fun a' w' E => ob_loada 26 (.tmp 4) rfl (E.old 4 (by kernel_rfl)) (E.row (g := w.heap.size) (c := (P9 px py pn)) 0 rfl) Try.underlying26 rfl (by kernel_rfl) rfl)
    (Obs.val (fun a' w' E => ob_fcall 20 _ _ rfl (am1 (E.new (v := (A9 px py pn)) 66 2 (by kernel_rfl) rfl)) (fc20 _ _) (hG2.out w'))
    (Obs.val (fun a' w' E => ob_binOp .eql 26 (.tmp 65) (.tmp 67) 26 rfl (E.new (v := (A9 mx my mn)) 65 1 (by kernel_rfl) rfl) (E.new (v := (A9 mx my mn)) 67 3 (by kernel_rfl) rfl) (by simp [go_sem, hE4]))
    (Obs.val (fun a' w' E => ob_move (.tmp 68) rfl (E.new (v := (.bool true)) 68 4 (by kernel_rfl) rfl))
    (Obs.gval rfl rfl (fun a' w' E => E.new 69 5 (by kernel_rfl) rfl) (fun a' w' E => ob_loada 26 (.tmp 4) rfl (E.old 4 (by kernel_rfl)) (E.row (g := w.heap.size) (c := (P9 px py pn)) 0 rfl) Try.underlying26 rfl (by kernel_rfl) rfl)
    (Obs.gval rfl rfl (fun a' w' E => E.new 69 5 (by kernel_rfl) rfl) (fun a' w' E => ob_loada 26 (.tmp 5) rfl (E.old 5 (by kernel_rfl)) (E.row (g := w.heap.size + 1) (c := (P9 qx qy qn)) 1 rfl) Try.underlying26 rfl (by kernel_rfl) rfl)
    (Obs.gval rfl rfl (fun a' w' E => E.new 69 5 (by kernel_rfl) rfl) (fun a' w' E => ob_fcall 21 _ _ rfl (am2 (E.new (v := (A9 px py pn)) 70 6 (by kernel_rfl) rfl) (E.new (v := (A9 qx qy qn)) 71 7 (by kernel_rfl) rfl)) (fc21 _ _) (hA1.out w'))
    (Obs.gval rfl rfl (fun a' w' E => E.new 69 5 (by kernel_rfl) rfl) (fun a' w' E => ob_loada 26 (.tmp 4) rfl (E.old 4 (by kernel_rfl)) (E.row (g := w.heap.size) (c := (P9 px py pn)) 0 rfl) Try.underlying26 rfl (by kernel_rfl) rfl)
    (Obs.gval rfl rfl (fun a' w' E => E.new 69 5 (by kernel_rfl) rfl) (fun a' w' E => ob_loada 26 (.tmp 5) rfl (E.old 5 (by kernel_rfl)) (E.row (g := w.heap.size + 1) (c := (P9 qx qy qn)) 1 rfl) Try.underlying26 rfl (by kernel_rfl) rfl)
    (Obs.gval rfl rfl (fun a' w' E => E.new 69 5 (by kernel_rfl) rfl) (fun a' w' E => ob_fcall 22 _ _ rfl (am2 (E.new (v := (A9 px py pn)) 73 9 (by kernel_rfl) rfl) (E.new (v := (A9 qx qy qn)) 74 10 (by kernel_rfl) rfl)) (fc22 _ _) (hA2.out w'))
    (Obs.gval rfl rfl (fun a' w' E => E.new 69 5 (by kernel_rfl) rfl) (fun a' w' E => ob_binOp .eql 26 (.tmp 72) (.tmp 75) 26 rfl (E.new (v := (A9 sx sy sn)) 72 8 (by kernel_rfl) rfl) (E.new (v := (A9 sx sy sn)) 75 11 (by kernel_rfl) rfl) (by simp [go_sem, hE5]))
    (Obs.val (fun a' w' E => ob_pick (.tmp 69) (.tmp 76) (.const (.bool false)) rfl (E.new (v := (.bool true)) 69 5 (by kernel_rfl) rfl) (E.new (v := (.bool true)) 76 12 (by kernel_rfl) rfl))
    (Obs.val (fun a' w' E => ob_move (.tmp 77) rfl (E.new (v := (.bool true)) 77 13 (by kernel_rfl) rfl))
    (Obs.gval rfl rfl (fun a' w' E => E.new 78 14 (by kernel_rfl) rfl) (fun a' w' E => ob_loada 26 (.tmp 4) rfl (E.old 4 (by kernel_rfl)) (E.row (g := w.heap.size) (c := (P9 px py pn)) 0 rfl) Try.underlying26 rfl (by kernel_rfl) rfl)
    (Obs.gval rfl rfl (fun a' w' E => E.new 78 14 (by kernel_rfl) rfl) (fun a' w' E => ob_loada 26 (.tmp 4) rfl (E.old 4 (by kernel_rfl)) (E.row (g := w.heap.size) (c := (P9 px py pn)) 0 rfl) Try.underlying26 rfl (by kernel_rfl) rfl)
    (Obs.gval rfl rfl (fun a' w' E => E.new 78 14 (by kernel_rfl) rfl) (fun a' w' E => ob_fcall 21 _ _ rfl (am2 (E.new (v := (A9 px py pn)) 79 15 (by kernel_rfl) rfl) (E.new (v := (A9 px py pn)) 80 16 (by kernel_rfl) rfl)) (fc21 _ _) (hA3.out w'))
    (Obs.gval rfl rfl (fun a' w' E => E.new 78 14 (by kernel_rfl) rfl) (fun a' w' E => ob_loada 26 (.tmp 4) rfl (E.old 4 (by kernel_rfl)) (E.row (g := w.heap.size) (c := (P9 px py pn)) 0 rfl) Try.underlying26 rfl (by kernel_rfl) rfl)
    (Obs.gval rfl rfl (fun a' w' E => E.new 78 14 (by kernel_rfl) rfl) (fun a' w' E => ob_loada 26 (.tmp 4) rfl (E.old 4 (by kernel_rfl)) (E.row (g := w.heap.size) (c := (P9 px py pn)) 0 rfl) Try.underlying26 rfl (by kernel_rfl) rfl)
    (Obs.gval rfl rfl (fun a' w' E => E.new 78 14 (by kernel_rfl) rfl) (fun a' w' E => ob_fcall 22 _ _ rfl (am2 (E.new (v := (A9 px py pn)) 82 18 (by kernel_rfl) rfl) (E.new (v := (A9 px py pn)) 83 19 (by kernel_rfl) rfl)) (fc22 _ _) (hA4.out w'))
    (Obs.gval rfl rfl (fun a' w' E => E.new 78 14 (by kernel_rfl) rfl) (fun a' w' E => ob_binOp .eql 26 (.tmp 81) (.tmp 84) 26 rfl (E.new (v := (A9 dx dy dn)) 81 17 (by kernel_rfl) rfl) (E.new (v := (A9 dx dy dn)) 84 20 (by kernel_rfl) rfl) (by simp [go_sem, hE6]))
    (Obs.val (fun a' w' E => ob_pick (.tmp 78) (.tmp 85) (.const (.bool false)) rfl (E.new (v := (.bool true)) 78 14 (by kernel_rfl) rfl) (E.new (v := (.bool true)) 85 21 (by kernel_rfl) rfl))
    (Obs.val (fun a' w' E => ob_move (.tmp 86) rfl (E.new (v := (.bool true)) 86 22 (by kernel_rfl) rfl))
    (Obs.gval rfl rfl (fun a' w' E => E.new 87 23 (by kernel_rfl) rfl) (fun a' w' E => ob_fcall 18 _ _ rfl (am0) (fc18 _ _) (hW.out w'))
    (Obs.val (fun a' w' E => ob_pick (.tmp 87) (.tmp 88) (.const (.bool false)) rfl (E.new (v := (.bool true)) 87 23 (by kernel_rfl) rfl) (E.new (v := (.bool true)) 88 24 (by kernel_rfl) rfl))
    (Obs.val (fun a' w' E => ob_assign (.tmp 89) rfl (E.new (v := (.bool true)) 89 25 (by kernel_rfl) rfl))
    Obs.nil))))))))))))))))))))))))))) ?_
  intro bs w5 aZ haZ F
  have eZ : aZ = ({ tmps := #[(A9 px py pn), (A9 qx qy qn), (U x), (.bool odd), (PT w.heap.size), (PT (w.heap.size + 1)), (PT (w.heap.size + 1 + 1)), undef, (.bool true), (PT g1_6), (.bool lo), (PT g2_6), (.bool lo), (.tuple #[(A9 lx ly ln), (.bool lo)]), (U x), (.bool odd), (.tuple #[(A9 lx ly ln), (.bool lo)]), (A9 lx ly ln), (.bool lo), (.tuple #[(A9 lx ly ln), (.bool lo)]), (U x), (.bool odd), (.tuple #[(A9 lx ly ln), (.bool lo)]), (A9 lx ly ln), (.bool lo), (A9 px py pn), (.bool true), (A9 px py pn), (.bool true), (.bool false), (.bool false), (A9 lx ly ln), (A9 lx ly ln), (.bool false), (.bool false), (.bool false), (.bool lo), (.bool lo), (.bool false), (.bool false), (.bool false), (U pr), (U pr), (.bool false), (.bool false), (.bool false), (U od), (U od), (.bool false), (.bool false), (.bool false), (A9 gx gy gn), (A9 gx gy gn), (.bool false), (.bool false), (A9 px py pn), (.bool true), (.bool false), (.bool false), (A9 qx qy qn), (.bool true), (.bool false), (.bool false), undef, (A9 px py pn), (A9 mx my mn), (A9 px py pn), (A9 mx my mn), (.bool true), (.bool true), (A9 px py pn), (A9 qx qy qn), (A9 sx sy sn), (A9 px py pn), (A9 qx qy qn), (A9 sx sy sn), (.bool true), (.bool true), (.bool true), (A9 px py pn), (A9 px py pn), (A9 dx dy dn), (A9 px py pn), (A9 px py pn), (A9 dx dy dn), (.bool true), (.bool true), (.bool true), (.bool true), (.bool true)], defers := [] } : Act) := haZ.trans (by kernel_rfl)
  subst eZ
  clear haZ
  replace RR : Hid (RB w w5 [(g2_6, (P9 lx ly ln)), (g1_6, (P9 lx ly ln)), (w.heap.size + 1 + 1, (Ar x)), (w.heap.size + 1, (P9 qx qy qn)), (w.heap.size, (P9 px py pn))]) := ⟨F.bw, (RowsAt.cons (F.row 4 rfl) (RowsAt.cons (F.row 3 rfl) (RowsAt.cons (F.row 2 rfl) (RowsAt.cons (F.row 1 rfl) (RowsAt.cons (F.row 0 rfl) RowsAt.nil)))))⟩
  clear F qT q0 q1 q2 q3 q4
  go_wp2
  exact bodyPost_ret (v := (.bool true)) (by simp [results, Try.results3, go_sem]) rfl ⟨rfl, RR.out.b⟩
end Go.Proofs.Ythbindnkichimaa
