/- Raw walks of CurveGroup, over letters. -/
import Derived.Test.YthbindnkichimaaXgMC
import Derived.Test.YthbindnkichimaaXgQc
import Derived.Test.YthbindnkichimaaXgEq
import Derived.WalkSmall
import Derived.Deep.Cut
import Derived.Deep.Light
namespace Go.Proofs.Ythbindnkichimaa
open Go.RowKit Go.Sort
set_option linter.unusedVariables false
set_option maxRecDepth 100000 in
set_option maxHeartbeats 4000000 in
theorem group_a (px py qx qy rx ry sx sy tx ty ux uy mx my : Nat) (pn qn rn sn tn un mn : Bool) (hRp : Does 11 #[(A9 px py pn)] (.bool false)) (hW : Does 18 #[] (.bool true)) 
    (w : World) : Calls Try.prog 5 #[(A9 px py pn), (A9 qx qy qn), (A9 rx ry rn)] w fun e w' => e = .returned (.bool true) ∧ Below w.heap.size w w' := by
  go_enter Try.func5, Try.ntmps5
  go_upto_region 1 with fail
  refine name_world _ ?_
  intro wF hF0
  have RR : Hid (RB w wF [(w.heap.size + 1 + 1, (P9 rx ry rn)), (w.heap.size + 1, (P9 qx qy qn)), (w.heap.size, (P9 px py pn))]) := by rw [hF0]; exact (rbN (rbN (rbN (rb0 w) (by simp)) (by simp)) (by simp))
  clear hF0
  obtain ⟨q2, q1, q0, qT⟩ := RR.out.r.lts
  refine wp_region_told (by kernel_rfl) (by kernel_rfl) (by kernel_rfl) [(w.heap.size, (P9 px py pn)), (w.heap.size + 1, (P9 qx qy qn)), (w.heap.size + 1 + 1, (P9 rx ry rn))]
    [sV (A9 px py pn),
     sV (.bool false),
     sV (.bool true),
     sV (.bool true),
     sV undef,
     sV undef,
     sV undef,
     sV (.bool true),
     sV (.bool true),
     sV undef,
     sV undef,
     sV undef,
     sV (.bool true)]
    (by kernel_rfl) RR.out.b (RowsAt.cons (RR.out.at 2 rfl) (RowsAt.cons (RR.out.at 1 rfl) (RowsAt.cons (RR.out.at 0 rfl) RowsAt.nil))) (StOk.of [] rfl StM.nil)
    (Obs.val (fun a' w' E => ob_loada 26 (.tmp 3) rfl (E.old 3 (by kernel_rfl)) (E.row (g := w.heap.size) (c := (P9 px py pn)) 0 rfl) Try.underlying26 rfl (by kernel_rfl) rfl)
    (Obs.val (fun a' w' E => ob_fcall 11 _ _ rfl (am1 (E.new (v := (A9 px py pn)) 9 0 (by kernel_rfl) rfl)) (fc11 _ _) (hRp.out w'))
    (Obs.val (fun a' w' E => ob_unOp .not 4 (.tmp 10) rfl (E.new (v := (.bool false)) 10 1 (by kernel_rfl) rfl) (by simp [go_sem]))
    (Obs.val (fun a' w' E => ob_move (.tmp 11) rfl (E.new (v := (.bool true)) 11 2 (by kernel_rfl) rfl))
    (Obs.skip rfl rfl (fun a' w' E => E.new 12 3 (by kernel_rfl) rfl) (by decide) 
    (Obs.skip rfl rfl (fun a' w' E => E.new 12 3 (by kernel_rfl) rfl) (by decide) 
    (Obs.skip rfl rfl (fun a' w' E => E.new 12 3 (by kernel_rfl) rfl) (by decide) 
    (Obs.val (fun a' w' E => ob_pick (.tmp 12) (.const (.bool true)) (.tmp 15) rfl (E.new (v := (.bool true)) 12 3 (by kernel_rfl) rfl) (evc a' (.bool true)))
    (Obs.val (fun a' w' E => ob_move (.tmp 16) rfl (E.new (v := (.bool true)) 16 7 (by kernel_rfl) rfl))
    (Obs.skip rfl rfl (fun a' w' E => E.new 17 8 (by kernel_rfl) rfl) (by decide) 
    (Obs.skip rfl rfl (fun a' w' E => E.new 17 8 (by kernel_rfl) rfl) (by decide) 
    (Obs.skip rfl rfl (fun a' w' E => E.new 17 8 (by kernel_rfl) rfl) (by decide) 
    (Obs.val (fun a' w' E => ob_pick (.tmp 17) (.const (.bool true)) (.tmp 20) rfl (E.new (v := (.bool true)) 17 8 (by kernel_rfl) rfl) (evc a' (.bool true)))
    Obs.nil))))))))))))) ?_
  intro bs w1 aZ haZ F
  have eZ : aZ = ({ tmps := #[(A9 px py pn), (A9 qx qy qn), (A9 rx ry rn), (PT w.heap.size), (PT (w.heap.size + 1)), (PT (w.heap.size + 1 + 1)), (.bool false), undef, undef, (A9 px py pn), (.bool false), (.bool true), (.bool true), undef, undef, undef, (.bool true), (.bool true), undef, undef, undef, (.bool true), undef, undef, undef, undef, undef, undef, undef, undef, undef, undef, undef, undef, undef, undef, undef, undef, undef, undef, undef, undef, undef, undef, undef, undef, undef, undef, undef, undef, undef, undef, undef, undef, undef, undef, undef, undef, undef, undef, undef, undef, undef, undef, undef], defers := [] } : Act) := haZ.trans (by kernel_rfl)
  subst eZ
  clear haZ
  replace RR : Hid (RB w w1 [(w.heap.size + 1 + 1, (P9 rx ry rn)), (w.heap.size + 1, (P9 qx qy qn)), (w.heap.size, (P9 px py pn))]) := ⟨F.bw, (RowsAt.cons (F.row 2 rfl) (RowsAt.cons (F.row 1 rfl) (RowsAt.cons (F.row 0 rfl) RowsAt.nil)))⟩
  clear F qT q0 q1 q2
  clear wF
  go_upto_region 2 with fail
  obtain ⟨q2, q1, q0, qT⟩ := RR.out.r.lts
  refine wp_region_told (by kernel_rfl) (by kernel_rfl) (by kernel_rfl) [(w.heap.size, (P9 px py pn)), (w.heap.size + 1, (P9 qx qy qn)), (w.heap.size + 1 + 1, (P9 rx ry rn))]
    [sV (.bool true),
     sV (.bool true)]
    (by kernel_rfl) RR.out.b (RowsAt.cons (RR.out.at 2 rfl) (RowsAt.cons (RR.out.at 1 rfl) (RowsAt.cons (RR.out.at 0 rfl) RowsAt.nil))) (StOk.of [] rfl StM.nil)
    (Obs.val (fun a' w' E => ob_fcall 18 _ _ rfl (am0) (fc18 _ _) (hW.out w'))
    (Obs.val (fun a' w' E => ob_assign (.tmp 22) rfl (E.new (v := (.bool true)) 22 0 (by kernel_rfl) rfl))
    Obs.nil)) ?_
  intro bs w2 aZ haZ F
  have eZ : aZ = ({ tmps := #[(A9 px py pn), (A9 qx qy qn), (A9 rx ry rn), (PT w.heap.size), (PT (w.heap.size + 1)), (PT (w.heap.size + 1 + 1)), (.bool true), undef, undef, (A9 px py pn), (.bool false), (.bool true), (.bool true), undef, undef, undef, (.bool true), (.bool true), undef, undef, undef, (.bool true), (.bool true), undef, undef, undef, undef, undef, undef, undef, undef, undef, undef, undef, undef, undef, undef, undef, undef, undef, undef, undef, undef, undef, undef, undef, undef, undef, undef, undef, undef, undef, undef, undef, undef, undef, undef, undef, undef, undef, undef, undef, undef, undef, undef], defers := [] } : Act) := haZ.trans (by kernel_rfl)
  subst eZ
  clear haZ
  replace RR : Hid (RB w w2 [(w.heap.size + 1 + 1, (P9 rx ry rn)), (w.heap.size + 1, (P9 qx qy qn)), (w.heap.size, (P9 px py pn))]) := ⟨F.bw, (RowsAt.cons (F.row 2 rfl) (RowsAt.cons (F.row 1 rfl) (RowsAt.cons (F.row 0 rfl) RowsAt.nil)))⟩
  clear F qT q0 q1 q2
  go_wp2
  exact bodyPost_ret (v := (.bool true)) (by simp [results, Try.results5, go_sem]) rfl ⟨rfl, RR.out.b⟩
set_option maxRecDepth 100000 in
set_option maxHeartbeats 4000000 in
theorem group_b (px py qx qy rx ry sx sy tx ty ux uy mx my : Nat) (pn qn rn sn tn un mn : Bool) (hRp : Does 11 #[(A9 px py pn)] (.bool true)) (hRq : Does 11 #[(A9 qx qy qn)] (.bool false)) (hW : Does 18 #[] (.bool true)) 
    (w : World) : Calls Try.prog 5 #[(A9 px py pn), (A9 qx qy qn), (A9 rx ry rn)] w fun e w' => e = .returned (.bool true) ∧ Below w.heap.size w w' := by
  go_enter Try.func5, Try.ntmps5
  go_upto_region 1 with fail
  refine name_world _ ?_
  intro wF hF0
  have RR : Hid (RB w wF [(w.heap.size + 1 + 1, (P9 rx ry rn)), (w.heap.size + 1, (P9 qx qy qn)), (w.heap.size, (P9 px py pn))]) := by rw [hF0]; exact (rbN (rbN (rbN (rb0 w) (by simp)) (by simp)) (by simp))
  clear hF0
  obtain ⟨q2, q1, q0, qT⟩ := RR.out.r.lts
  refine wp_region_told (by kernel_rfl) (by kernel_rfl) (by kernel_rfl) [(w.heap.size, (P9 px py pn)), (w.heap.size + 1, (P9 qx qy qn)), (w.heap.size + 1 + 1, (P9 rx ry rn))]
    [sV (A9 px py pn),
     sV (.bool true),
     sV (.bool false),
     sV (.bool false),
     sV (A9 qx qy qn),
     sV (.bool false),
     sV (.bool true),
     sV (.bool true),
     sV (.bool true),
     sV undef,
     sV undef,
     sV undef,
     sV (.bool true)]
    (by kernel_rfl) RR.out.b (RowsAt.cons (RR.out.at 2 rfl) (RowsAt.cons (RR.out.at 1 rfl) (RowsAt.cons (RR.out.at 0 rfl) RowsAt.nil))) (StOk.of [] rfl StM.nil)
    (Obs.val (fun a' w' E => ob_loada 26 (.tmp 3) rfl (E.old 3 (by kernel_rfl)) (E.row (g := w.heap.size) (c := (P9 px py pn)) 0 rfl) Try.underlying26 rfl (by kernel_rfl) rfl)
    (Obs.val (fun a' w' E => ob_fcall 11 _ _ rfl (am1 (E.new (v := (A9 px py pn)) 9 0 (by kernel_rfl) rfl)) (fc11 _ _) (hRp.out w'))
    (Obs.val (fun a' w' E => ob_unOp .not 4 (.tmp 10) rfl (E.new (v := (.bool true)) 10 1 (by kernel_rfl) rfl) (by simp [go_sem]))
    (Obs.val (fun a' w' E => ob_move (.tmp 11) rfl (E.new (v := (.bool false)) 11 2 (by kernel_rfl) rfl))
    (Obs.gval rfl rfl (fun a' w' E => E.new 12 3 (by kernel_rfl) rfl) (fun a' w' E => ob_loada 26 (.tmp 4) rfl (E.old 4 (by kernel_rfl)) (E.row (g := w.heap.size + 1) (c := (P9 qx qy qn)) 1 rfl) Try.underlying26 rfl (by kernel_rfl) rfl)
    (Obs.gval rfl rfl (fun a' w' E => E.new 12 3 (by kernel_rfl) rfl) (fun a' w' E => ob_fcall 11 _ _ rfl (am1 (E.new (v := (A9 qx qy qn)) 13 4 (by kernel_rfl) rfl)) (fc11 _ _) (hRq.out w'))
    (Obs.gval rfl rfl (fun a' w' E => E.new 12 3 (by kernel_rfl) rfl) (fun a' w' E => ob_unOp .not 4 (.tmp 14) rfl (E.new (v := (.bool false)) 14 5 (by kernel_rfl) rfl) (by simp [go_sem]))
    (Obs.val (fun a' w' E => ob_pick (.tmp 12) (.const (.bool true)) (.tmp 15) rfl (E.new (v := (.bool false)) 12 3 (by kernel_rfl) rfl) (E.new (v := (.bool true)) 15 6 (by kernel_rfl) rfl))
    (Obs.val (fun a' w' E => ob_move (.tmp 16) rfl (E.new (v := (.bool true)) 16 7 (by kernel_rfl) rfl))
    (Obs.skip rfl rfl (fun a' w' E => E.new 17 8 (by kernel_rfl) rfl) (by decide) 
    (Obs.skip rfl rfl (fun a' w' E => E.new 17 8 (by kernel_rfl) rfl) (by decide) 
    (Obs.skip rfl rfl (fun a' w' E => E.new 17 8 (by kernel_rfl) rfl) (by decide) 
    (Obs.val (fun a' w' E => ob_pick (.tmp 17) (.const (.bool true)) (.tmp 20) rfl (E.new (v := (.bool true)) 17 8 (by kernel_rfl) rfl) (evc a' (.bool true)))
    Obs.nil))))))))))))) ?_
  intro bs w1 aZ haZ F
  have eZ : aZ = ({ tmps := #[(A9 px py pn), (A9 qx qy qn), (A9 rx ry rn), (PT w.heap.size), (PT (w.heap.size + 1)), (PT (w.heap.size + 1 + 1)), (.bool false), undef, undef, (A9 px py pn), (.bool true), (.bool false), (.bool false), (A9 qx qy qn), (.bool false), (.bool true), (.bool true), (.bool true), undef, undef, undef, (.bool true), undef, undef, undef, undef, undef, undef, undef, undef, undef, undef, undef, undef, undef, undef, undef, undef, undef, undef, undef, undef, undef, undef, undef, undef, undef, undef, undef, undef, undef, undef, undef, undef, undef, undef, undef, undef, undef, undef, undef, undef, undef, undef, undef], defers := [] } : Act) := haZ.trans (by kernel_rfl)
  subst eZ
  clear haZ
  replace RR : Hid (RB w w1 [(w.heap.size + 1 + 1, (P9 rx ry rn)), (w.heap.size + 1, (P9 qx qy qn)), (w.heap.size, (P9 px py pn))]) := ⟨F.bw, (RowsAt.cons (F.row 2 rfl) (RowsAt.cons (F.row 1 rfl) (RowsAt.cons (F.row 0 rfl) RowsAt.nil)))⟩
  clear F qT q0 q1 q2
  clear wF
  go_upto_region 2 with fail
  obtain ⟨q2, q1, q0, qT⟩ := RR.out.r.lts
  refine wp_region_told (by kernel_rfl) (by kernel_rfl) (by kernel_rfl) [(w.heap.size, (P9 px py pn)), (w.heap.size + 1, (P9 qx qy qn)), (w.heap.size + 1 + 1, (P9 rx ry rn))]
    [sV (.bool true),
     sV (.bool true)]
    (by kernel_rfl) RR.out.b (RowsAt.cons (RR.out.at 2 rfl) (RowsAt.cons (RR.out.at 1 rfl) (RowsAt.cons (RR.out.at 0 rfl) RowsAt.nil))) (StOk.of [] rfl StM.nil)
    (Obs.val (fun a' w' E => ob_fcall 18 _ _ rfl (am0) (fc18 _ _) (hW.out w'))
    (Obs.val (fun a' w' E => ob_assign (.tmp 22) rfl (E.new (v := (.bool true)) 22 0 (by kernel_rfl) rfl))
    Obs.nil)) ?_
  intro bs w2 aZ haZ F
  have eZ : aZ = ({ tmps := #[(A9 px py pn), (A9 qx qy qn), (A9 rx ry rn), (PT w.heap.size), (PT (w.heap.size + 1)), (PT (w.heap.size + 1 + 1)), (.bool true), undef, undef, (A9 px py pn), (.bool true), (.bool false), (.bool false), (A9 qx qy qn), (.bool false), (.bool true), (.bool true), (.bool true), undef, undef, undef, (.bool true), (.bool true), undef, undef, undef, undef, undef, undef, undef, undef, undef, undef, undef, undef, undef, undef, undef, undef, undef, undef, undef, undef, undef, undef, undef, undef, undef, undef, undef, undef, undef, undef, undef, undef, undef, undef, undef, undef, undef, undef, undef, undef, undef, undef], defers := [] } : Act) := haZ.trans (by kernel_rfl)
  subst eZ
  clear haZ
  replace RR : Hid (RB w w2 [(w.heap.size + 1 + 1, (P9 rx ry rn)), (w.heap.size + 1, (P9 qx qy qn)), (w.heap.size, (P9 px py pn))]) := ⟨F.bw, (RowsAt.cons (F.row 2 rfl) (RowsAt.cons (F.row 1 rfl) (RowsAt.cons (F.row 0 rfl) RowsAt.nil)))⟩
  clear F qT q0 q1 q2
  go_wp2
  exact bodyPost_ret (v := (.bool true)) (by simp [results, Try.results5, go_sem]) rfl ⟨rfl, RR.out.b⟩
set_option maxRecDepth 100000 in
set_option maxHeartbeats 4000000 in
theorem group_c (px py qx qy rx ry sx sy tx ty ux uy mx my : Nat) (pn qn rn sn tn un mn : Bool) (hRp : Does 11 #[(A9 px py pn)] (.bool true)) (hRq : Does 11 #[(A9 qx qy qn)] (.bool true)) (hRr : Does 11 #[(A9 rx ry rn)] (.bool false)) (hW : Does 18 #[] (.bool true)) 
    (w : World) : Calls Try.prog 5 #[(A9 px py pn), (A9 qx qy qn), (A9 rx ry rn)] w fun e w' => e = .returned (.bool true) ∧ Below w.heap.size w w' := by
  go_enter Try.func5, Try.ntmps5
  go_upto_region 1 with fail
  refine name_world _ ?_
  intro wF hF0
  have RR : Hid (RB w wF [(w.heap.size + 1 + 1, (P9 rx ry rn)), (w.heap.size + 1, (P9 qx qy qn)), (w.heap.size, (P9 px py pn))]) := by rw [hF0]; exact (rbN (rbN (rbN (rb0 w) (by simp)) (by simp)) (by simp))
  clear hF0
  obtain ⟨q2, q1, q0, qT⟩ := RR.out.r.lts
  refine wp_region_told (by kernel_rfl) (by kernel_rfl) (by kernel_rfl) [(w.heap.size, (P9 px py pn)), (w.heap.size + 1, (P9 qx qy qn)), (w.heap.size + 1 + 1, (P9 rx ry rn))]
    [sV (A9 px py pn),
     sV (.bool true),
     sV (.bool false),
     sV (.bool false),
     sV (A9 qx qy qn),
     sV (.bool true),
     sV (.bool false),
     sV (.bool false),
     sV (.bool false),
     sV (A9 rx ry rn),
     sV (.bool false),
     sV (.bool true),
     sV (.bool true)]
    (by kernel_rfl) RR.out.b (RowsAt.cons (RR.out.at 2 rfl) (RowsAt.cons (RR.out.at 1 rfl) (RowsAt.cons (RR.out.at 0 rfl) RowsAt.nil))) (StOk.of [] rfl StM.nil)
    (Obs.val (fun a' w' E => ob_loada 26 (.tmp 3) rfl (E.old 3 (by kernel_rfl)) (E.row (g := w.heap.size) (c := (P9 px py pn)) 0 rfl) Try.underlying26 rfl (by kernel_rfl) rfl)
    (Obs.val (fun a' w' E => ob_fcall 11 _ _ rfl (am1 (E.new (v := (A9 px py pn)) 9 0 (by kernel_rfl) rfl)) (fc11 _ _) (hRp.out w'))
    (Obs.val (fun a' w' E => ob_unOp .not 4 (.tmp 10) rfl (E.new (v := (.bool true)) 10 1 (by kernel_rfl) rfl) (by simp [go_sem]))
    (Obs.val (fun a' w' E => ob_move (.tmp 11) rfl (E.new (v := (.bool false)) 11 2 (by kernel_rfl) rfl))
    (Obs.gval rfl rfl (fun a' w' E => E.new 12 3 (by kernel_rfl) rfl) (fun a' w' E => ob_loada 26 (.tmp 4) rfl (E.old 4 (by kernel_rfl)) (E.row (g := w.heap.size + 1) (c := (P9 qx qy qn)) 1 rfl) Try.underlying26 rfl (by kernel_rfl) rfl)
    (Obs.gval rfl rfl (fun a' w' E => E.new 12 3 (by kernel_rfl) rfl) (fun a' w' E => ob_fcall 11 _ _ rfl (am1 (E.new (v := (A9 qx qy qn)) 13 4 (by kernel_rfl) rfl)) (fc11 _ _) (hRq.out w'))
    (Obs.gval rfl rfl (fun a' w' E => E.new 12 3 (by kernel_rfl) rfl) (fun a' w' E => ob_unOp .not 4 (.tmp 14) rfl (E.new (v := (.bool true)) 14 5 (by kernel_rfl) rfl) (by simp [go_sem]))
    (Obs.val (fun a' w' E => ob_pick (.tmp 12) (.const (.bool true)) (.tmp 15) rfl (E.new (v := (.bool false)) 12 3 (by kernel_rfl) rfl) (E.new (v := (.bool false)) 15 6 (by kernel_rfl) rfl))
    (Obs.val (fun a' w' E => ob_move (.tmp 16) rfl (E.new (v := (.bool false)) 16 7 (by kernel_rfl) rfl))
    (Obs.gval rfl rfl (fun a' w' E => E.new 17 8 (by kernel_rfl) rfl) (fun a' w' E => ob_loada 26 (.tmp 5) rfl (E.old 5 (by kernel_rfl)) (E.row (g := w.heap.size + 1 + 1) (c := (P9 rx ry rn)) 2 rfl) Try.underlying26 rfl (by kernel_rfl) rfl)
    (Obs.gval rfl rfl (fun a' w' E => E.new 17 8 (by kernel_rfl) rfl) (fun a' w' E => ob_fcall 11 _ _ rfl (am1 (E.new (v := (A9 rx ry rn)) 18 9 (by kernel_rfl) rfl)) (fc11 _ _) (hRr.out w'))
    (Obs.gval rfl rfl (fun a' w' E => E.new 17 8 (by kernel_rfl) rfl) (fun a' w' E => ob_unOp .not 4 (.tmp 19) rfl (E.new (v := (.bool false)) 19 10 (by kernel_rfl) rfl) (by simp [go_sem]))
    (Obs.val (fun a' w' E => ob_pick (.tmp 17) (.const (.bool true)) (.tmp 20) rfl (E.new (v := (.bool false)) 17 8 (by kernel_rfl) rfl) (E.new (v := (.bool true)) 20 11 (by kernel_rfl) rfl))
    Obs.nil))))))))))))) ?_
  intro bs w1 aZ haZ F
  have eZ : aZ = ({ tmps := #[(A9 px py pn), (A9 qx qy qn), (A9 rx ry rn), (PT w.heap.size), (PT (w.heap.size + 1)), (PT (w.heap.size + 1 + 1)), (.bool false), undef, undef, (A9 px py pn), (.bool true), (.bool false), (.bool false), (A9 qx qy qn), (.bool true), (.bool false), (.bool false), (.bool false), (A9 rx ry rn), (.bool false), (.bool true), (.bool true), undef, undef, undef, undef, undef, undef, undef, undef, undef, undef, undef, undef, undef, undef, undef, undef, undef, undef, undef, undef, undef, undef, undef, undef, undef, undef, undef, undef, undef, undef, undef, undef, undef, undef, undef, undef, undef, undef, undef, undef, undef, undef, undef], defers := [] } : Act) := haZ.trans (by kernel_rfl)
  subst eZ
  clear haZ
  replace RR : Hid (RB w w1 [(w.heap.size + 1 + 1, (P9 rx ry rn)), (w.heap.size + 1, (P9 qx qy qn)), (w.heap.size, (P9 px py pn))]) := ⟨F.bw, (RowsAt.cons (F.row 2 rfl) (RowsAt.cons (F.row 1 rfl) (RowsAt.cons (F.row 0 rfl) RowsAt.nil)))⟩
  clear F qT q0 q1 q2
  clear wF
  go_upto_region 2 with fail
  obtain ⟨q2, q1, q0, qT⟩ := RR.out.r.lts
  refine wp_region_told (by kernel_rfl) (by kernel_rfl) (by kernel_rfl) [(w.heap.size, (P9 px py pn)), (w.heap.size + 1, (P9 qx qy qn)), (w.heap.size + 1 + 1, (P9 rx ry rn))]
    [sV (.bool true),
     sV (.bool true)]
    (by kernel_rfl) RR.out.b (RowsAt.cons (RR.out.at 2 rfl) (RowsAt.cons (RR.out.at 1 rfl) (RowsAt.cons (RR.out.at 0 rfl) RowsAt.nil))) (StOk.of [] rfl StM.nil)
    (Obs.val (fun a' w' E => ob_fcall 18 _ _ rfl (am0) (fc18 _ _) (hW.out w'))
    (Obs.val (fun a' w' E => ob_assign (.tmp 22) rfl (E.new (v := (.bool true)) 22 0 (by kernel_rfl) rfl))
    Obs.nil)) ?_
  intro bs w2 aZ haZ F
  have eZ : aZ = ({ tmps := #[(A9 px py pn), (A9 qx qy qn), (A9 rx ry rn), (PT w.heap.size), (PT (w.heap.size + 1)), (PT (w.heap.size + 1 + 1)), (.bool true), undef, undef, (A9 px py pn), (.bool true), (.bool false), (.bool false), (A9 qx qy qn), (.bool true), (.bool false), (.bool false), (.bool false), (A9 rx ry rn), (.bool false), (.bool true), (.bool true), (.bool true), undef, undef, undef, undef, undef, undef, undef, undef, undef, undef, undef, undef, undef, undef, undef, undef, undef, undef, undef, undef, undef, undef, undef, undef, undef, undef, undef, undef, undef, undef, undef, undef, undef, undef, undef, undef, undef, undef, undef, undef, undef, undef], defers := [] } : Act) := haZ.trans (by kernel_rfl)
  subst eZ
  clear haZ
  replace RR : Hid (RB w w2 [(w.heap.size + 1 + 1, (P9 rx ry rn)), (w.heap.size + 1, (P9 qx qy qn)), (w.heap.size, (P9 px py pn))]) := ⟨F.bw, (RowsAt.cons (F.row 2 rfl) (RowsAt.cons (F.row 1 rfl) (RowsAt.cons (F.row 0 rfl) RowsAt.nil)))⟩
  clear F qT q0 q1 q2
  go_wp2
  exact bodyPost_ret (v := (.bool true)) (by simp [results, Try.results5, go_sem]) rfl ⟨rfl, RR.out.b⟩
set_option maxRecDepth 100000 in
set_option maxHeartbeats 4000000 in
theorem group_d (px py qx qy rx ry sx sy tx ty ux uy mx my : Nat) (pn qn rn sn tn un mn : Bool) (hRp : Does 11 #[(A9 px py pn)] (.bool true)) (hRq : Does 11 #[(A9 qx qy qn)] (.bool true)) (hRr : Does 11 #[(A9 rx ry rn)] (.bool true)) (hA1 : Does 21 #[(A9 px py pn), (A9 qx qy qn)] (A9 sx sy sn)) (hA2 : Does 21 #[(A9 qx qy qn), (A9 px py pn)] (A9 sx sy sn)) (hRs : Does 11 #[(A9 sx sy sn)] (.bool true)) (hA3 : Does 21 #[(A9 sx sy sn), (A9 rx ry rn)] (A9 tx ty tn)) (hA4 : Does 21 #[(A9 qx qy qn), (A9 rx ry rn)] (A9 ux uy un)) (hA5 : Does 21 #[(A9 px py pn), (A9 ux uy un)] (A9 tx ty tn)) (hG : Does 19 #[(A9 px py pn)] (A9 mx my mn)) (hA6 : Does 21 #[(A9 px py pn), (A9 mx my mn)] (A9 0 0 true)) (hA7 : Does 21 #[(A9 px py pn), (A9 0 0 true)] (A9 px py pn)) (hW : Does 18 #[] (.bool true)) (hE0 : ∀ w, (Op.equalIn 10000 26 (A9 sx sy sn) (A9 sx sy sn)).run Try.prog w = .ok true w) (hE1 : ∀ w, (Op.equalIn 10000 26 (A9 tx ty tn) (A9 tx ty tn)).run Try.prog w = .ok true w) (hE2 : ∀ w, (Op.equalIn 10000 26 (A9 0 0 true) (A9 0 0 true)).run Try.prog w = .ok true w) (hE3 : ∀ w, (Op.equalIn 10000 26 (A9 px py pn) (A9 px py pn)).run Try.prog w = .ok true w)
    (w : World) : Calls Try.prog 5 #[(A9 px py pn), (A9 qx qy qn), (A9 rx ry rn)] w fun e w' => e = .returned (.bool true) ∧ Below w.heap.size w w' := by
  go_enter Try.func5, Try.ntmps5
  go_upto_region 1 with fail
  refine name_world _ ?_
  intro wF hF0
  have RR : Hid (RB w wF [(w.heap.size + 1 + 1, (P9 rx ry rn)), (w.heap.size + 1, (P9 qx qy qn)), (w.heap.size, (P9 px py pn))]) := by rw [hF0]; exact (rbN (rbN (rbN (rb0 w) (by simp)) (by simp)) (by simp))
  clear hF0
  obtain ⟨q2, q1, q0, qT⟩ := RR.out.r.lts
  refine wp_region_told (by kernel_rfl) (by kernel_rfl) (by kernel_rfl) [(w.heap.size, (P9 px py pn)), (w.heap.size + 1, (P9 qx qy qn)), (w.heap.size + 1 + 1, (P9 rx ry rn))]
    [sV (A9 px py pn),
     sV (.bool true),
     sV (.bool false),
     sV (.bool false),
     sV (A9 qx qy qn),
     sV (.bool true),
     sV (.bool false),
     sV (.bool false),
     sV (.bool false),
     sV (A9 rx ry rn),
     sV (.bool true),
     sV (.bool false),
     sV (.bool false)]
    (by kernel_rfl) RR.out.b (RowsAt.cons (RR.out.at 2 rfl) (RowsAt.cons (RR.out.at 1 rfl) (RowsAt.cons (RR.out.at 0 rfl) RowsAt.nil))) (StOk.of [] rfl StM.nil)
    (Obs.val (fun a' w' E => ob_loada 26 (.tmp 3) rfl (E.old 3 (by kernel_rfl)) (E.row (g := w.heap.size) (c := (P9 px py pn)) 0 rfl) Try.underlying26 rfl (by kernel_rfl) rfl)
    (Obs.val (fun a' w' E => ob_fcall 11 _ _ rfl (am1 (E.new (v := (A9 px py pn)) 9 0 (by kernel_rfl) rfl)) (fc11 _ _) (hRp.out w'))
    (Obs.val (fun a' w' E => ob_unOp .not 4 (.tmp 10) rfl (E.new (v := (.bool true)) 10 1 (by kernel_rfl) rfl) (by simp [go_sem]))
    (Obs.val (fun a' w' E => ob_move (.tmp 11) rfl (E.new (v := (.bool false)) 11 2 (by kernel_rfl) rfl))
    (Obs.gval rfl rfl (fun a' w' E => E.new 12 3 (by kernel_rfl) rfl) (fun a' w' E => ob_loada 26 (.tmp 4) rfl (E.old 4 (by kernel_rfl)) (E.row (g := w.heap.size + 1) (c := (P9 qx qy qn)) 1 rfl) Try.underlying26 rfl (by kernel_rfl) rfl)
    (Obs.gval rfl rfl (fun a' w' E => E.new 12 3 (by kernel_rfl) rfl) (fun a' w' E => ob_fcall 11 _ _ rfl (am1 (E.new (v := (A9 qx qy qn)) 13 4 (by kernel_rfl) rfl)) (fc11 _ _) (hRq.out w'))
    (Obs.gval rfl rfl (fun a' w' E => E.new 12 3 (by kernel_rfl) rfl) (fun a' w' E => ob_unOp .not 4 (.tmp 14) rfl (E.new (v := (.bool true)) 14 5 (by kernel_rfl) rfl) (by simp [go_sem]))
    (Obs.val (fun a' w' E => ob_pick (.tmp 12) (.const (.bool true)) (.tmp 15) rfl (E.new (v := (.bool false)) 12 3 (by kernel_rfl) rfl) (E.new (v := (.bool false)) 15 6 (by kernel_rfl) rfl))
    (Obs.val (fun a' w' E => ob_move (.tmp 16) rfl (E.new (v := (.bool false)) 16 7 (by kernel_rfl) rfl))
    (Obs.gval rfl rfl (fun a' w' E => E.new 17 8 (by kernel_rfl) rfl) (fun a' w' E => ob_loada 26 (.tmp 5) rfl (E.old 5 (by kernel_rfl)) (E.row (g := w.heap.size + 1 + 1) (c := (P9 rx ry rn)) 2 rfl) Try.underlying26 rfl (by kernel_rfl) rfl)
    (Obs.gval rfl rfl (fun a' w' E => E.new 17 8 (by kernel_rfl) rfl) (fun a' w' E => ob_fcall 11 _ _ rfl (am1 (E.new (v := (A9 rx ry rn)) 18 9 (by kernel_rfl) rfl)) (fc11 _ _) (hRr.out w'))
    (Obs.gval rfl rfl (fun a' w' E => E.new 17 8 (by kernel_rfl) rfl) (fun a' w' E => ob_unOp .not 4 (.tmp 19) rfl (E.new (v := (.bool true)) 19 10 (by kernel_rfl) rfl) (by simp [go_sem]))
    (Obs.val (fun a' w' E => ob_pick (.tmp 17) (.const (.bool true)) (.tmp 20) rfl (E.new (v := (.bool false)) 17 8 (by kernel_rfl) rfl) (E.new (v := (.bool false)) 20 11 (by kernel_rfl) rfl))
    Obs.nil))))))))))))) ?_
  intro bs w1 aZ haZ F
  have eZ : aZ = ({ tmps := #[(A9 px py pn), (A9 qx qy qn), (A9 rx ry rn), (PT w.heap.size), (PT (w.heap.size + 1)), (PT (w.heap.size + 1 + 1)), (.bool false), undef, undef, (A9 px py pn), (.bool true), (.bool false), (.bool false), (A9 qx qy qn), (.bool true), (.bool false), (.bool false), (.bool false), (A9 rx ry rn), (.bool true), (.bool false), (.bool false), undef, undef, undef, undef, undef, undef, undef, undef, undef, undef, undef, undef, undef, undef, undef, undef, undef, undef, undef, undef, undef, undef, undef, undef, undef, undef, undef, undef, undef, undef, undef, undef, undef, undef, undef, undef, undef, undef, undef, undef, undef, undef, undef], defers := [] } : Act) := haZ.trans (by kernel_rfl)
  subst eZ
  clear haZ
  replace RR : Hid (RB w w1 [(w.heap.size + 1 + 1, (P9 rx ry rn)), (w.heap.size + 1, (P9 qx qy qn)), (w.heap.size, (P9 px py pn))]) := ⟨F.bw, (RowsAt.cons (F.row 2 rfl) (RowsAt.cons (F.row 1 rfl) (RowsAt.cons (F.row 0 rfl) RowsAt.nil)))⟩
  clear F qT q0 q1 q2
  clear wF
  go_upto_region 3 with fail
  obtain ⟨q2, q1, q0, qT⟩ := RR.out.r.lts
  refine wp_region_told (by kernel_rfl) (by kernel_rfl) (by kernel_rfl) [(w.heap.size, (P9 px py pn)), (w.heap.size + 1, (P9 qx qy qn)), (w.heap.size + 1 + 1, (P9 rx ry rn))]
    [sV (A9 px py pn),
     sV (A9 qx qy qn),
     sV (A9 sx sy sn),
     sA (fun g => .pointer (some ⟨g, 0, none⟩)) 4 Z9 (P9 sx sy sn),
     sS 3]
    (by kernel_rfl) RR.out.b (RowsAt.cons (RR.out.at 2 rfl) (RowsAt.cons (RR.out.at 1 rfl) (RowsAt.cons (RR.out.at 0 rfl) RowsAt.nil))) (StOk.of [] rfl StM.nil)
    (Obs.val (fun a' w' E => ob_loada 26 (.tmp 3) rfl (E.old 3 (by kernel_rfl)) (E.row (g := w.heap.size) (c := (P9 px py pn)) 0 rfl) Try.underlying26 rfl (by kernel_rfl) rfl)
    (Obs.val (fun a' w' E => ob_loada 26 (.tmp 4) rfl (E.old 4 (by kernel_rfl)) (E.row (g := w.heap.size + 1) (c := (P9 qx qy qn)) 1 rfl) Try.underlying26 rfl (by kernel_rfl) rfl)
    (Obs.val (fun a' w' E => ob_fcall 21 _ _ rfl (am2 (E.new (v := (A9 px py pn)) 23 0 (by kernel_rfl) rfl) (E.new (v := (A9 qx qy qn)) 24 1 (by kernel_rfl) rfl)) (fc21 _ _) (hA1.out w'))
    (Obs.alloc (fun a' w' E => ob_alloc (t := 26) (by simp [opAt, execOp, go_sem]))
    (Obs.sta rfl (fun a' w' g E ha hr => ob_storea 26 (.tmp 7) (.tmp 25) rfl (ha 7 (by kernel_rfl)) (E.new (v := (A9 sx sy sn)) 25 2 (by kernel_rfl) rfl) rfl hr (by kernel_rfl) (Nat.le_of_ble_eq_true rfl) (by kernel_rfl) rfl)
    Obs.nil))))) ?_
  intro bs w2 aZ haZ F
  have eZ : aZ = ({ tmps := #[(A9 px py pn), (A9 qx qy qn), (A9 rx ry rn), (PT w.heap.size), (PT (w.heap.size + 1)), (PT (w.heap.size + 1 + 1)), (.bool false), (PT ((bs 3))), undef, (A9 px py pn), (.bool true), (.bool false), (.bool false), (A9 qx qy qn), (.bool true), (.bool false), (.bool false), (.bool false), (A9 rx ry rn), (.bool true), (.bool false), (.bool false), undef, (A9 px py pn), (A9 qx qy qn), (A9 sx sy sn), undef, undef, undef, undef, undef, undef, undef, undef, undef, undef, undef, undef, undef, undef, undef, undef, undef, undef, undef, undef, undef, undef, undef, undef, undef, undef, undef, undef, undef, undef, undef, undef, undef, undef, undef, undef, undef, undef, undef], defers := [] } : Act) := haZ.trans (by kernel_rfl)
  subst eZ
  clear haZ
  obtain ⟨h3, X3⟩ := F.al 3 rfl rfl
  replace RR : Hid (RB w w2 [((bs 3), (P9 sx sy sn)), (w.heap.size + 1 + 1, (P9 rx ry rn)), (w.heap.size + 1, (P9 qx qy qn)), (w.heap.size, (P9 px py pn))]) := ⟨F.bw, (RowsAt.cons X3 (RowsAt.cons (F.row 2 rfl) (RowsAt.cons (F.row 1 rfl) (RowsAt.cons (F.row 0 rfl) RowsAt.nil))))⟩
  generalize bs 3 = g2_3 at *
  have k2_3_0 := Nat.lt_of_lt_of_le q0 h3
  have k2_3_1 := Nat.lt_of_lt_of_le q1 h3
  have k2_3_2 := Nat.lt_of_lt_of_le q2 h3
  clear F qT q0 q1 q2 h3 X3
  go_upto_region 4 with fail
  obtain ⟨q3, q2, q1, q0, qT⟩ := RR.out.r.lts
  refine wp_region_told (by kernel_rfl) (by kernel_rfl) (by kernel_rfl) [(w.heap.size, (P9 px py pn)), (w.heap.size + 1, (P9 qx qy qn)), (w.heap.size + 1 + 1, (P9 rx ry rn)), (g2_3, (P9 sx sy sn))]
    [sV (A9 0 0 true),
     sA (fun g => .pointer (some ⟨g, 0, none⟩)) 2 Z9 (P9 0 0 true),
     sS 1]
    (by kernel_rfl) RR.out.b (RowsAt.cons (RR.out.at 3 rfl) (RowsAt.cons (RR.out.at 2 rfl) (RowsAt.cons (RR.out.at 1 rfl) (RowsAt.cons (RR.out.at 0 rfl) RowsAt.nil)))) (StOk.of [] rfl StM.nil)
    (Obs.val (fun a' w' E => ob_build 26 _ rfl (pm1 (evc a' (.bool true))) (bd26_2b _ w'))
    (Obs.alloc (fun a' w' E => ob_alloc (t := 26) (by simp [opAt, execOp, go_sem]))
    (Obs.sta rfl (fun a' w' g E ha hr => ob_storea 26 (.tmp 8) (.tmp 26) rfl (ha 8 (by kernel_rfl)) (E.new (v := (A9 0 0 true)) 26 0 (by kernel_rfl) rfl) rfl hr (by kernel_rfl) (Nat.le_of_ble_eq_true rfl) (by kernel_rfl) rfl)
    Obs.nil))) ?_
  intro bs w3 aZ haZ F
  have eZ : aZ = ({ tmps := #[(A9 px py pn), (A9 qx qy qn), (A9 rx ry rn), (PT w.heap.size), (PT (w.heap.size + 1)), (PT (w.heap.size + 1 + 1)), (.bool false), (PT g2_3), (PT ((bs 1))), (A9 px py pn), (.bool true), (.bool false), (.bool false), (A9 qx qy qn), (.bool true), (.bool false), (.bool false), (.bool false), (A9 rx ry rn), (.bool true), (.bool false), (.bool false), undef, (A9 px py pn), (A9 qx qy qn), (A9 sx sy sn), (A9 0 0 true), undef, undef, undef, undef, undef, undef, undef, undef, undef, undef, undef, undef, undef, undef, undef, undef, undef, undef, undef, undef, undef, undef, undef, undef, undef, undef, undef, undef, undef, undef, undef, undef, undef, undef, undef, undef, undef, undef], defers := [] } : Act) := haZ.trans (by kernel_rfl)
  subst eZ
  clear haZ
  obtain ⟨h1, X1⟩ := F.al 1 rfl rfl
  replace RR : Hid (RB w w3 [((bs 1), (P9 0 0 true)), (g2_3, (P9 sx sy sn)), (w.heap.size + 1 + 1, (P9 rx ry rn)), (w.heap.size + 1, (P9 qx qy qn)), (w.heap.size, (P9 px py pn))]) := ⟨F.bw, (RowsAt.cons X1 (RowsAt.cons (F.row 3 rfl) (RowsAt.cons (F.row 2 rfl) (RowsAt.cons (F.row 1 rfl) (RowsAt.cons (F.row 0 rfl) RowsAt.nil)))))⟩
  generalize bs 1 = g3_1 at *
  have k3_1_0 := Nat.lt_of_lt_of_le q0 h1
  have k3_1_1 := Nat.lt_of_lt_of_le q1 h1
  have k3_1_2 := Nat.lt_of_lt_of_le q2 h1
  have k3_1_3 := Nat.lt_of_lt_of_le q3 h1
  clear F qT q0 q1 q2 q3 h1 X1
  go_upto_region 5 with fail
  obtain ⟨q4, q3, q2, q1, q0, qT⟩ := RR.out.r.lts
  refine wp_region_told (by kernel_rfl) (by kernel_rfl) (by kernel_rfl) [(w.heap.size, (P9 px py pn)), (w.heap.size + 1, (P9 qx qy qn)), (w.heap.size + 1 + 1, (P9 rx ry rn)), (g2_3, (P9 sx sy sn)), (g3_1, (P9 0 0 true))]
    [sV (A9 sx sy sn),
     sV (A9 qx qy qn),
     sV (A9 px py pn),
     sV (A9 sx sy sn),
     sV (.bool true),
     sV (.bool true),
     sV (A9 sx sy sn),
     sV (.bool true),
     sV (.bool true),
     sV (.bool true),
     sV (A9 sx sy sn),
     sV (A9 rx ry rn),
     sV (A9 tx ty tn),
     sV (A9 px py pn),
     sV (A9 qx qy qn),
     sV (A9 rx ry rn),
     sV (A9 ux uy un),
     sV (A9 tx ty tn),
     sV (.bool true),
     sV (.bool true),
     sV (.bool true),
     sV (A9 px py pn),
     sV (A9 px py pn),
     sV (A9 mx my mn),
     sV (A9 0 0 true),
     sV (A9 0 0 true),
     sV (.bool true),
     sV (.bool true),
     sV (.bool true),
     sV (A9 px py pn),
     sV (A9 0 0 true),
     sV (A9 px py pn),
     sV (A9 px py pn),
     sV (.bool true),
     sV (.bool true),
     sV (.bool true),
     sV (.bool true),
     sV (.bool true),
     sV (.bool true)]
    (by kernel_rfl) RR.out.b (RowsAt.cons (RR.out.at 4 rfl) (RowsAt.cons (RR.out.at 3 rfl) (RowsAt.cons (RR.out.at 2 rfl) (RowsAt.cons (RR.out.at 1 rfl) (RowsAt.cons (RR.out.at 0 rfl) RowsAt.nil))))) (StOk.of [] rfl StM.nil)
    (Obs.val (fun a' w' E => ob_loada 26 (.tmp 7) rfl (E.old 7 (by kernel_rfl)) (E.row (g := g2_3) (c := (P9 sx sy sn)) 3 rfl) Try.underlying26 rfl (by kernel_rfl) rfl)
    (Obs.val (fun a' w' E => ob_loada 26 (.tmp 4) rfl (E.old 4 (by kernel_rfl)) (E.row (g := w.heap.size + 1) (c := (P9 qx qy qn)) 1 rfl) Try.underlying26 rfl (by kernel_rfl) rfl)
    (Obs.val (fun a' w' E => ob_loada 26 (.tmp 3) rfl (E.old 3 (by kernel_rfl)) (E.row (g := w.heap.size) (c := (P9 px py pn)) 0 rfl) Try.underlying26 rfl (by kernel_rfl) rfl)
    (Obs.val (fun a' w' E => ob_fcall 21 _ _ rfl (am2 (E.new (v := (A9 qx qy qn)) 28 1 (by kernel_rfl) rfl) (E.new (v := (A9 px py pn)) 29 2 (by kernel_rfl) rfl)) (fc21 _ _) (hA2.out w'))
    (Obs.val (fun a' w' E => ob_binOp .eql 26 (.tmp 27) (.tmp 30) 26 rfl (E.new (v := (A9 sx sy sn)) 27 0 (by kernel_rfl) rfl) (E.new (v := (A9 sx sy sn)) 30 3 (by kernel_rfl) rfl) (by simp [go_sem, hE0]))
    (Obs.val (fun a' w' E => ob_move (.tmp 31) rfl (E.new (v := (.bool true)) 31 4 (by kernel_rfl) rfl))
    (Obs.gval rfl rfl (fun a' w' E => E.new 32 5 (by kernel_rfl) rfl) (fun a' w' E => ob_loada 26 (.tmp 7) rfl (E.old 7 (by kernel_rfl)) (E.row (g := g2_3) (c := (P9 sx sy sn)) 3 rfl) Try.underlying26 rfl (by kernel_rfl) rfl)
    (Obs.gval rfl rfl (fun a' w' E => E.new 32 5 (by kernel_rfl) rfl) (fun a' w' E => ob_fcall 11 _ _ rfl (am1 (E.new (v := (A9 sx sy sn)) 33 6 (by kernel_rfl) rfl)) (fc11 _ _) (hRs.out w'))
    (Obs.val (fun a' w' E => ob_pick (.tmp 32) (.tmp 34) (.const (.bool false)) rfl (E.new (v := (.bool true)) 32 5 (by kernel_rfl) rfl) (E.new (v := (.bool true)) 34 7 (by kernel_rfl) rfl))
    (Obs.val (fun a' w' E => ob_move (.tmp 35) rfl (E.new (v := (.bool true)) 35 8 (by kernel_rfl) rfl))
    (Obs.gval rfl rfl (fun a' w' E => E.new 36 9 (by kernel_rfl) rfl) (fun a' w' E => ob_loada 26 (.tmp 7) rfl (E.old 7 (by kernel_rfl)) (E.row (g := g2_3) (c := (P9 sx sy sn)) 3 rfl) Try.underlying26 rfl (by kernel_rfl) rfl)
    (Obs.gval rfl rfl (fun a' w' E => E.new 36 9 (by kernel_rfl) rfl) (fun a' w' E => ob_loada 26 (.tmp 5) rfl (E.old 5 (by kernel_rfl)) (E.row (g := w.heap.size + 1 + 1) (c := (P9 rx ry rn)) 2 rfl) Try.underlying26 rfl (by kernel_rfl) rfl)
    (Obs.gval rfl rfl (fun a' w' E => E.new 36 9 (by kernel_rfl) rfl) (fun a' w' E => ob_fcall 21 _ _ rfl (am2 (E.new (v := (A9 sx sy sn)) 37 10 (by kernel_rfl) rfl) (E.new (v := (A9 rx ry rn)) 38 11 (by kernel_rfl) rfl)) (fc21 _ _) (hA3.out w'))
    (Obs.gval rfl rfl (fun a' w' E => E.new 36 9 (by kernel_rfl) rfl) (fun a' w' E => ob_loada 26 (.tmp 3) rfl (E.old 3 (by kernel_rfl)) (E.row (g := w.heap.size) (c := (P9 px py pn)) 0 rfl) Try.underlying26 rfl (by kernel_rfl) rfl)
    (Obs.gval rfl rfl (fun a' w' E => E.new 36 9 (by kernel_rfl) rfl) (fun a' w' E => ob_loada 26 (.tmp 4) rfl (E.old 4 (by kernel_rfl)) (E.row (g := w.heap.size + 1) (c := (P9 qx qy qn)) 1 rfl) Try.underlying26 rfl (by kernel_rfl) rfl)
    (Obs.gval rfl rfl (fun a' w' E => E.new 36 9 (by kernel_rfl) rfl) (fun a' w' E => ob_loada 26 (.tmp 5) rfl (E.old 5 (by kernel_rfl)) (E.row (g := w.heap.size + 1 + 1) (c := (P9 rx ry rn)) 2 rfl) Try.underlying26 rfl (by kernel_rfl) rfl)
    (Obs.gval rfl rfl (fun a' w' E => E.new 36 9 (by kernel_rfl) rfl) (fun a' w' E => ob_fcall 21 _ _ rfl (am2 (E.new (v := (A9 qx qy qn)) 41 14 (by kernel_rfl) rfl) (E.new (v := (A9 rx ry rn)) 42 15 (by kernel_rfl) rfl)) (fc21 _ _) (hA4.out w'))
    (Obs.gval rfl rfl (fun a' w' E => E.new 36 9 (by kernel_rfl) rfl) (fun a' w' E => ob_fcall 21 _ _ rfl (am2 (E.new (v := (A9 px py pn)) 40 13 (by kernel_rfl) rfl) (E.new (v := (A9 ux uy un)) 43 16 (by kernel_rfl) rfl)) (fc21 _ _) (hA5.out w'))
    (Obs.gval rfl rfl (fun a' w' E => E.new 36 9 (by kernel_rfl) rfl) (fun a' w' E => ob_binOp .eql 26 (.tmp 39) (.tmp 44) 26 rfl (E.new (v := (A9 tx ty tn)) 39 12 (by kernel_rfl) rfl) (E.new (v := (A9 tx ty tn)) 44 17 (by kernel_rfl) rfl) (by simp [go_sem, hE1]))
    (Obs.val (fun a' w' E => ob_pick (.tmp 36) (.tmp 45) (.const (.bool false)) rfl (E.new (v := (.bool true)) 36 9 (by kernel_rfl) rfl) (E.new (v := (.bool true)) 45 18 (by kernel_rfl) rfl))
    (Obs.val (fun a' w' E => ob_move (.tmp 46) rfl (E.new (v := (.bool true)) 46 19 (by kernel_rfl) rfl))
    (Obs.gval rfl rfl (fun a' w' E => E.new 47 20 (by kernel_rfl) rfl) (fun a' w' E => ob_loada 26 (.tmp 3) rfl (E.old 3 (by kernel_rfl)) (E.row (g := w.heap.size) (c := (P9 px py pn)) 0 rfl) Try.underlying26 rfl (by kernel_rfl) rfl)
    (Obs.gval rfl rfl (fun a' w' E => E.new 47 20 (by kernel_rfl) rfl) (fun a' w' E => ob_loada 26 (.tmp 3) rfl (E.old 3 (by kernel_rfl)) (E.row (g := w.heap.size) (c := (P9 px py pn)) 0 rfl) Try.underlying26 rfl (by kernel_rfl) rfl)
    (Obs.gval rfl rfl (fun a' w' E => E.new 47 20 (by kernel_rfl) rfl) (fun a' w' E => ob_fcall 19 _ _ rfl (am1 (E.new (v := (A9 px py pn)) 49 22 (by kernel_rfl) rfl)) (fc19 _ _) (hG.out w'))
    (Obs.gval rfl rfl (fun a' w' E => E.new 47 20 (by kernel_rfl) rfl) (fun a' w' E => ob_fcall 21 _ _ rfl (am2 (E.new (v := (A9 px py pn)) 48 21 (by kernel_rfl) rfl) (E.new (v := (A9 mx my mn)) 50 23 (by kernel_rfl) rfl)) (fc21 _ _) (hA6.out w'))
    (Obs.gval rfl rfl (fun a' w' E => E.new 47 20 (by kernel_rfl) rfl) (fun a' w' E => ob_loada 26 (.tmp 8) rfl (E.old 8 (by kernel_rfl)) (E.row (g := g3_1) (c := (P9 0 0 true)) 4 rfl) Try.underlying26 rfl (by kernel_rfl) rfl)
    (Obs.gval rfl rfl (fun a' w' E => E.new 47 20 (by kernel_rfl) rfl) (fun a' w' E => ob_binOp .eql 26 (.tmp 51) (.tmp 52) 26 rfl (E.new (v := (A9 0 0 true)) 51 24 (by kernel_rfl) rfl) (E.new (v := (A9 0 0 true)) 52 25 (by kernel_rfl) rfl) (by simp [go_sem, hE2]))
    (Obs.val (fun a' w' E => ob_pick (.tmp 47) (.tmp 53) (.const (.bool false)) rfl (E.new (v := (.bool true)) 47 20 (by kernel_rfl) rfl) (E.new (v := (.bool true)) 53 26 (by kernel_rfl) rfl))
    (Obs.val (fun a' w' E => ob_move (.tmp 54) rfl (E.new (v := (.bool true)) 54 27 (by kernel_rfl) rfl))
    (Obs.gval rfl rfl (fun a' w' E => E.new 55 28 (by kernel_rfl) rfl) (fun a' w' E => ob_loada 26 (.tmp 3) rfl (E.old 3 (by kernel_rfl)) (E.row (g := w.heap.size) (c := (P9 px py pn)) 0 rfl) Try.underlying26 rfl (by kernel_rfl) rfl)
    (Obs.gval rfl rfl (fun a' w' E => E.new 55 28 (by kernel_rfl) rfl) (fun a' w' E => ob_loada 26 (.tmp 8) rfl (E.old 8 (by kernel_rfl)) (E.row (g := g3_1) (c := (P9 0 0 true)) 4 rfl) Try.underlying26 rfl (by kernel_rfl) rfl)
    (Obs.gval rfl rfl (fun a' w' E => E.new 55 28 (by kernel_rfl) rfl) (fun a' w' E => ob_fcall 21 _ _ rfl (am2 (E.new (v := (A9 px py pn)) 56 29 (by kernel_rfl) rfl) (E.new (v := (A9 0 0 true)) 57 30 (by kernel_rfl) rfl)) (fc21 _ _) (hA7.out w'))
    (Obs.gval rfl rfl (fun a' w' E => E.new 55 28 (by kernel_rfl) rfl) (fun a' w' E => ob_loada 26 (.tmp 3) rfl (E.old 3 (by kernel_rfl)) (E.row (g := w.heap.size) (c := (P9 px py pn)) 0 rfl) Try.underlying26 rfl (by kernel_rfl) rfl)
    (Obs.gval rfl rfl (fun a' w' E => E.new 55 28 (by kernel_rfl) rfl) (fun a' w' E => ob_binOp .eql 26 (.tmp 58) (.tmp 59) 26 rfl (E.new (v := (A9 px py pn)) 58 31 (by kernel_rfl) rfl) (E.new (v := (A9 px py pn)) 59 32 (by kernel_rfl) rfl) (by simp [go_sem, hE3]))
    (Obs.val (fun a' w' E => ob_pick (.tmp 55) (.tmp 60) (.const (.bool false)) rfl (E.new (v := (.bool true)) 55 28 (by kernel_rfl) rfl) (E.new (v := (.bool true)) 60 33 (by kernel_rfl) rfl))
    (Obs.val (fun a' w' E => ob_move (.tmp 61) rfl (E.new (v := (.bool true)) 61 34 (by kernel_rfl) rfl))
    (Obs.gval rfl rfl (fun a' w' E => E.new 62 35 (by kernel_rfl) rfl) (fun a' w' E => ob_fcall 18 _ _ rfl (am0) (fc18 _ _) (hW.out w'))
    (Obs.val (fun a' w' E => ob_pick (.tmp 62) (.tmp 63) (.const (.bool false)) rfl (E.new (v := (.bool true)) 62 35 (by kernel_rfl) rfl) (E.new (v := (.bool true)) 63 36 (by kernel_rfl) rfl))
    (Obs.val (fun a' w' E => ob_assign (.tmp 64) rfl (E.new (v := (.bool true)) 64 37 (by kernel_rfl) rfl))
    Obs.nil))))))))))))))))))))))))))))))))))))))) ?_
  intro bs w4 aZ haZ F
  have eZ : aZ = ({ tmps := #[(A9 px py pn), (A9 qx qy qn), (A9 rx ry rn), (PT w.heap.size), (PT (w.heap.size + 1)), (PT (w.heap.size + 1 + 1)), (.bool true), (PT g2_3), (PT g3_1), (A9 px py pn), (.bool true), (.bool false), (.bool false), (A9 qx qy qn), (.bool true), (.bool false), (.bool false), (.bool false), (A9 rx ry rn), (.bool true), (.bool false), (.bool false), undef, (A9 px py pn), (A9 qx qy qn), (A9 sx sy sn), (A9 0 0 true), (A9 sx sy sn), (A9 qx qy qn), (A9 px py pn), (A9 sx sy sn), (.bool true), (.bool true), (A9 sx sy sn), (.bool true), (.bool true), (.bool true), (A9 sx sy sn), (A9 rx ry rn), (A9 tx ty tn), (A9 px py pn), (A9 qx qy qn), (A9 rx ry rn), (A9 ux uy un), (A9 tx ty tn), (.bool true), (.bool true), (.bool true), (A9 px py pn), (A9 px py pn), (A9 mx my mn), (A9 0 0 true), (A9 0 0 true), (.bool true), (.bool true), (.bool true), (A9 px py pn), (A9 0 0 true), (A9 px py pn), (A9 px py pn), (.bool true), (.bool true), (.bool true), (.bool true), (.bool true)], defers := [] } : Act) := haZ.trans (by kernel_rfl)
  subst eZ
  clear haZ
  replace RR : Hid (RB w w4 [(g3_1, (P9 0 0 true)), (g2_3, (P9 sx sy sn)), (w.heap.size + 1 + 1, (P9 rx ry rn)), (w.heap.size + 1, (P9 qx qy qn)), (w.heap.size, (P9 px py pn))]) := ⟨F.bw, (RowsAt.cons (F.row 4 rfl) (RowsAt.cons (F.row 3 rfl) (RowsAt.cons (F.row 2 rfl) (RowsAt.cons (F.row 1 rfl) (RowsAt.cons (F.row 0 rfl) RowsAt.nil)))))⟩
  clear F qT q0 q1 q2 q3 q4
  go_wp2
  exact bodyPost_ret (v := (.bool true)) (by simp [results, Try.results5, go_sem]) rfl ⟨rfl, RR.out.b⟩
end Go.Proofs.Ythbindnkichimaa
