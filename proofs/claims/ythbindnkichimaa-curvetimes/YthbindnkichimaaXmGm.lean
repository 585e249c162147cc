/- Raw walks of CurveTimes, over letters. -/
import Derived.Test.YthbindnkichimaaXmMC
import Derived.Test.YthbindnkichimaaXmQc
import Derived.Test.YthbindnkichimaaXmEq
import Derived.WalkSmall
import Derived.Deep.Cut
import Derived.Deep.Light
namespace Go.Proofs.Ythbindnkichimaa
open Go.RowKit Go.Sort
set_option linter.unusedVariables false
set_option maxRecDepth 100000 in
set_option maxHeartbeats 4000000 in
theorem times_a (px py qx qy mx my sx sy : Nat) (pn qn mn sn : Bool) (k l : Nat) (hRp : Does 11 #[(A9 px py pn)] (.bool false)) (hW : Does 18 #[] (.bool true)) 
    (w : World) : Calls Try.prog 4 #[(U k), (A9 px py pn), (U l), (A9 qx qy qn)] w fun e w' => e = .returned (.bool true) ∧ Below w.heap.size w w' := by
  go_enter Try.func4, Try.ntmps4
  go_upto_region 1 with fail
  refine name_world _ ?_
  intro wF hF0
  have RR : Hid (RB w wF [(w.heap.size + 1 + 1 + 1, (P9 qx qy qn)), (w.heap.size + 1 + 1, (Ar l)), (w.heap.size + 1, (P9 px py pn)), (w.heap.size, (Ar k))]) := by rw [hF0]; exact (rbN (rbN (rbN (rbN (rb0 w) (by simp)) (by simp)) (by simp)) (by simp))
  clear hF0
  obtain ⟨q3, q2, q1, q0, qT⟩ := RR.out.r.lts
  refine wp_region_told (by kernel_rfl) (by kernel_rfl) (by kernel_rfl) [(w.heap.size, (Ar k)), (w.heap.size + 1, (P9 px py pn)), (w.heap.size + 1 + 1, (Ar l)), (w.heap.size + 1 + 1 + 1, (P9 qx qy qn))]
    [sV (A9 px py pn),
     sV (.bool false),
     sV (.bool true),
     sV (.bool true),
     sV undef,
     sV undef,
     sV undef,
     sV (.bool true)]
    (by kernel_rfl) RR.out.b (RowsAt.cons (RR.out.at 3 rfl) (RowsAt.cons (RR.out.at 2 rfl) (RowsAt.cons (RR.out.at 1 rfl) (RowsAt.cons (RR.out.at 0 rfl) RowsAt.nil)))) (StOk.of [] rfl StM.nil)
    (Obs.val (fun a' w' E => ob_loada 26 (.tmp 5) rfl (E.old 5 (by kernel_rfl)) (E.row (g := w.heap.size + 1) (c := (P9 px py pn)) 1 rfl) Try.underlying26 rfl (by kernel_rfl) rfl)
    (Obs.val (fun a' w' E => ob_fcall 11 _ _ rfl (am1 (E.new (v := (A9 px py pn)) 9 0 (by kernel_rfl) rfl)) (fc11 _ _) (hRp.out w'))
    (Obs.val (fun a' w' E => ob_unOp .not 4 (.tmp 10) rfl (E.new (v := (.bool false)) 10 1 (by kernel_rfl) rfl) (by simp [go_sem]))
    (Obs.val (fun a' w' E => ob_move (.tmp 11) rfl (E.new (v := (.bool true)) 11 2 (by kernel_rfl) rfl))
    (Obs.skip rfl rfl (fun a' w' E => E.new 12 3 (by kernel_rfl) rfl) (by decide) 
    (Obs.skip rfl rfl (fun a' w' E => E.new 12 3 (by kernel_rfl) rfl) (by decide) 
    (Obs.skip rfl rfl (fun a' w' E => E.new 12 3 (by kernel_rfl) rfl) (by decide) 
    (Obs.val (fun a' w' E => ob_pick (.tmp 12) (.const (.bool true)) (.tmp 15) rfl (E.new (v := (.bool true)) 12 3 (by kernel_rfl) rfl) (evc a' (.bool true)))
    Obs.nil)))))))) ?_
  intro bs w1 aZ haZ F
  have eZ : aZ = ({ tmps := #[(U k), (A9 px py pn), (U l), (A9 qx qy qn), (PT w.heap.size), (PT (w.heap.size + 1)), (PT (w.heap.size + 1 + 1)), (PT (w.heap.size + 1 + 1 + 1)), (.bool false), (A9 px py pn), (.bool false), (.bool true), (.bool true), undef, undef, undef, (.bool true), undef, undef, undef, undef, undef, undef, undef, undef, undef, undef, undef, undef, undef, undef, undef, undef, undef, undef, undef, undef, undef, undef, undef, undef], defers := [] } : Act) := haZ.trans (by kernel_rfl)
  subst eZ
  clear haZ
  replace RR : Hid (RB w w1 [(w.heap.size + 1 + 1 + 1, (P9 qx qy qn)), (w.heap.size + 1 + 1, (Ar l)), (w.heap.size + 1, (P9 px py pn)), (w.heap.size, (Ar k))]) := ⟨F.bw, (RowsAt.cons (F.row 3 rfl) (RowsAt.cons (F.row 2 rfl) (RowsAt.cons (F.row 1 rfl) (RowsAt.cons (F.row 0 rfl) RowsAt.nil))))⟩
  clear F qT q0 q1 q2 q3
  clear wF
  go_upto_region 2 with fail
  obtain ⟨q3, q2, q1, q0, qT⟩ := RR.out.r.lts
  refine wp_region_told (by kernel_rfl) (by kernel_rfl) (by kernel_rfl) [(w.heap.size, (Ar k)), (w.heap.size + 1, (P9 px py pn)), (w.heap.size + 1 + 1, (Ar l)), (w.heap.size + 1 + 1 + 1, (P9 qx qy qn))]
    [sV (.bool true),
     sV (.bool true)]
    (by kernel_rfl) RR.out.b (RowsAt.cons (RR.out.at 3 rfl) (RowsAt.cons (RR.out.at 2 rfl) (RowsAt.cons (RR.out.at 1 rfl) (RowsAt.cons (RR.out.at 0 rfl) RowsAt.nil)))) (StOk.of [] rfl StM.nil)
    (Obs.val (fun a' w' E => ob_fcall 18 _ _ rfl (am0) (fc18 _ _) (hW.out w'))
    (Obs.val (fun a' w' E => ob_assign (.tmp 17) rfl (E.new (v := (.bool true)) 17 0 (by kernel_rfl) rfl))
    Obs.nil)) ?_
  intro bs w2 aZ haZ F
  have eZ : aZ = ({ tmps := #[(U k), (A9 px py pn), (U l), (A9 qx qy qn), (PT w.heap.size), (PT (w.heap.size + 1)), (PT (w.heap.size + 1 + 1)), (PT (w.heap.size + 1 + 1 + 1)), (.bool true), (A9 px py pn), (.bool false), (.bool true), (.bool true), undef, undef, undef, (.bool true), (.bool true), undef, undef, undef, undef, undef, undef, undef, undef, undef, undef, undef, undef, undef, undef, undef, undef, undef, undef, undef, undef, undef, undef, undef], defers := [] } : Act) := haZ.trans (by kernel_rfl)
  subst eZ
  clear haZ
  replace RR : Hid (RB w w2 [(w.heap.size + 1 + 1 + 1, (P9 qx qy qn)), (w.heap.size + 1 + 1, (Ar l)), (w.heap.size + 1, (P9 px py pn)), (w.heap.size, (Ar k))]) := ⟨F.bw, (RowsAt.cons (F.row 3 rfl) (RowsAt.cons (F.row 2 rfl) (RowsAt.cons (F.row 1 rfl) (RowsAt.cons (F.row 0 rfl) RowsAt.nil))))⟩
  clear F qT q0 q1 q2 q3
  go_wp2
  exact bodyPost_ret (v := (.bool true)) (by simp [results, Try.results4, go_sem]) rfl ⟨rfl, RR.out.b⟩
set_option maxRecDepth 100000 in
set_option maxHeartbeats 4000000 in
theorem times_b (px py qx qy mx my sx sy : Nat) (pn qn mn sn : Bool) (k l : Nat) (hRp : Does 11 #[(A9 px py pn)] (.bool true)) (hRq : Does 11 #[(A9 qx qy qn)] (.bool false)) (hW : Does 18 #[] (.bool true)) 
    (w : World) : Calls Try.prog 4 #[(U k), (A9 px py pn), (U l), (A9 qx qy qn)] w fun e w' => e = .returned (.bool true) ∧ Below w.heap.size w w' := by
  go_enter Try.func4, Try.ntmps4
  go_upto_region 1 with fail
  refine name_world _ ?_
  intro wF hF0
  have RR : Hid (RB w wF [(w.heap.size + 1 + 1 + 1, (P9 qx qy qn)), (w.heap.size + 1 + 1, (Ar l)), (w.heap.size + 1, (P9 px py pn)), (w.heap.size, (Ar k))]) := by rw [hF0]; exact (rbN (rbN (rbN (rbN (rb0 w) (by simp)) (by simp)) (by simp)) (by simp))
  clear hF0
  obtain ⟨q3, q2, q1, q0, qT⟩ := RR.out.r.lts
  refine wp_region_told (by kernel_rfl) (by kernel_rfl) (by kernel_rfl) [(w.heap.size, (Ar k)), (w.heap.size + 1, (P9 px py pn)), (w.heap.size + 1 + 1, (Ar l)), (w.heap.size + 1 + 1 + 1, (P9 qx qy qn))]
    [sV (A9 px py pn),
     sV (.bool true),
     sV (.bool false),
     sV (.bool false),
     sV (A9 qx qy qn),
     sV (.bool false),
     sV (.bool true),
     sV (.bool true)]
    (by kernel_rfl) RR.out.b (RowsAt.cons (RR.out.at 3 rfl) (RowsAt.cons (RR.out.at 2 rfl) (RowsAt.cons (RR.out.at 1 rfl) (RowsAt.cons (RR.out.at 0 rfl) RowsAt.nil)))) (StOk.of [] rfl StM.nil)
    (Obs.val (fun a' w' E => ob_loada 26 (.tmp 5) rfl (E.old 5 (by kernel_rfl)) (E.row (g := w.heap.size + 1) (c := (P9 px py pn)) 1 rfl) Try.underlying26 rfl (by kernel_rfl) rfl)
    (Obs.val (fun a' w' E => ob_fcall 11 _ _ rfl (am1 (E.new (v := (A9 px py pn)) 9 0 (by kernel_rfl) rfl)) (fc11 _ _) (hRp.out w'))
    (Obs.val (fun a' w' E => ob_unOp .not 4 (.tmp 10) rfl (E.new (v := (.bool true)) 10 1 (by kernel_rfl) rfl) (by simp [go_sem]))
    (Obs.val (fun a' w' E => ob_move (.tmp 11) rfl (E.new (v := (.bool false)) 11 2 (by kernel_rfl) rfl))
    (Obs.gval rfl rfl (fun a' w' E => E.new 12 3 (by kernel_rfl) rfl) (fun a' w' E => ob_loada 26 (.tmp 7) rfl (E.old 7 (by kernel_rfl)) (E.row (g := w.heap.size + 1 + 1 + 1) (c := (P9 qx qy qn)) 3 rfl) Try.underlying26 rfl (by kernel_rfl) rfl)
    (Obs.gval rfl rfl (fun a' w' E => E.new 12 3 (by kernel_rfl) rfl) (fun a' w' E => ob_fcall 11 _ _ rfl (am1 (E.new (v := (A9 qx qy qn)) 13 4 (by kernel_rfl) rfl)) (fc11 _ _) (hRq.out w'))
    (Obs.gval rfl rfl (fun a' w' E => E.new 12 3 (by kernel_rfl) rfl) (fun a' w' E => ob_unOp .not 4 (.tmp 14) rfl (E.new (v := (.bool false)) 14 5 (by kernel_rfl) rfl) (by simp [go_sem]))
    (Obs.val (fun a' w' E => ob_pick (.tmp 12) (.const (.bool true)) (.tmp 15) rfl (E.new (v := (.bool false)) 12 3 (by kernel_rfl) rfl) (E.new (v := (.bool true)) 15 6 (by kernel_rfl) rfl))
    Obs.nil)))))))) ?_
  intro bs w1 aZ haZ F
  have eZ : aZ = ({ tmps := #[(U k), (A9 px py pn), (U l), (A9 qx qy qn), (PT w.heap.size), (PT (w.heap.size + 1)), (PT (w.heap.size + 1 + 1)), (PT (w.heap.size + 1 + 1 + 1)), (.bool false), (A9 px py pn), (.bool true), (.bool false), (.bool false), (A9 qx qy qn), (.bool false), (.bool true), (.bool true), undef, undef, undef, undef, undef, undef, undef, undef, undef, undef, undef, undef, undef, undef, undef, undef, undef, undef, undef, undef, undef, undef, undef, undef], defers := [] } : Act) := haZ.trans (by kernel_rfl)
  subst eZ
  clear haZ
  replace RR : Hid (RB w w1 [(w.heap.size + 1 + 1 + 1, (P9 qx qy qn)), (w.heap.size + 1 + 1, (Ar l)), (w.heap.size + 1, (P9 px py pn)), (w.heap.size, (Ar k))]) := ⟨F.bw, (RowsAt.cons (F.row 3 rfl) (RowsAt.cons (F.row 2 rfl) (RowsAt.cons (F.row 1 rfl) (RowsAt.cons (F.row 0 rfl) RowsAt.nil))))⟩
  clear F qT q0 q1 q2 q3
  clear wF
  go_upto_region 2 with fail
  obtain ⟨q3, q2, q1, q0, qT⟩ := RR.out.r.lts
  refine wp_region_told (by kernel_rfl) (by kernel_rfl) (by kernel_rfl) [(w.heap.size, (Ar k)), (w.heap.size + 1, (P9 px py pn)), (w.heap.size + 1 + 1, (Ar l)), (w.heap.size + 1 + 1 + 1, (P9 qx qy qn))]
    [sV (.bool true),
     sV (.bool true)]
    (by kernel_rfl) RR.out.b (RowsAt.cons (RR.out.at 3 rfl) (RowsAt.cons (RR.out.at 2 rfl) (RowsAt.cons (RR.out.at 1 rfl) (RowsAt.cons (RR.out.at 0 rfl) RowsAt.nil)))) (StOk.of [] rfl StM.nil)
    (Obs.val (fun a' w' E => ob_fcall 18 _ _ rfl (am0) (fc18 _ _) (hW.out w'))
    (Obs.val (fun a' w' E => ob_assign (.tmp 17) rfl (E.new (v := (.bool true)) 17 0 (by kernel_rfl) rfl))
    Obs.nil)) ?_
  intro bs w2 aZ haZ F
  have eZ : aZ = ({ tmps := #[(U k), (A9 px py pn), (U l), (A9 qx qy qn), (PT w.heap.size), (PT (w.heap.size + 1)), (PT (w.heap.size + 1 + 1)), (PT (w.heap.size + 1 + 1 + 1)), (.bool true), (A9 px py pn), (.bool true), (.bool false), (.bool false), (A9 qx qy qn), (.bool false), (.bool true), (.bool true), (.bool true), undef, undef, undef, undef, undef, undef, undef, undef, undef, undef, undef, undef, undef, undef, undef, undef, undef, undef, undef, undef, undef, undef, undef], defers := [] } : Act) := haZ.trans (by kernel_rfl)
  subst eZ
  clear haZ
  replace RR : Hid (RB w w2 [(w.heap.size + 1 + 1 + 1, (P9 qx qy qn)), (w.heap.size + 1 + 1, (Ar l)), (w.heap.size + 1, (P9 px py pn)), (w.heap.size, (Ar k))]) := ⟨F.bw, (RowsAt.cons (F.row 3 rfl) (RowsAt.cons (F.row 2 rfl) (RowsAt.cons (F.row 1 rfl) (RowsAt.cons (F.row 0 rfl) RowsAt.nil))))⟩
  clear F qT q0 q1 q2 q3
  go_wp2
  exact bodyPost_ret (v := (.bool true)) (by simp [results, Try.results4, go_sem]) rfl ⟨rfl, RR.out.b⟩
set_option maxRecDepth 100000 in
set_option maxHeartbeats 4000000 in
theorem times_c (px py qx qy mx my sx sy : Nat) (pn qn mn sn : Bool) (k l : Nat) (hRp : Does 11 #[(A9 px py pn)] (.bool true)) (hRq : Does 11 #[(A9 qx qy qn)] (.bool true)) (hM1 : Does 23 #[(U k), (A9 px py pn)] (A9 mx my mn)) (hM2 : Does 24 #[(U k), (A9 px py pn)] (A9 mx my mn)) (hS1 : Does 25 #[(U k), (A9 px py pn), (U l), (A9 qx qy qn)] (A9 sx sy sn)) (hS2 : Does 26 #[(U k), (A9 px py pn), (U l), (A9 qx qy qn)] (A9 sx sy sn)) (hW : Does 18 #[] (.bool true)) (hE0 : ∀ w, (Op.equalIn 10000 26 (A9 mx my mn) (A9 mx my mn)).run Try.prog w = .ok true w) (hE1 : ∀ w, (Op.equalIn 10000 26 (A9 sx sy sn) (A9 sx sy sn)).run Try.prog w = .ok true w)
    (w : World) : Calls Try.prog 4 #[(U k), (A9 px py pn), (U l), (A9 qx qy qn)] w fun e w' => e = .returned (.bool true) ∧ Below w.heap.size w w' := by
  go_enter Try.func4, Try.ntmps4
  go_upto_region 1 with fail
  refine name_world _ ?_
  intro wF hF0
  have RR : Hid (RB w wF [(w.heap.size + 1 + 1 + 1, (P9 qx qy qn)), (w.heap.size + 1 + 1, (Ar l)), (w.heap.size + 1, (P9 px py pn)), (w.heap.size, (Ar k))]) := by rw [hF0]; exact (rbN (rbN (rbN (rbN (rb0 w) (by simp)) (by simp)) (by simp)) (by simp))
  clear hF0
  obtain ⟨q3, q2, q1, q0, qT⟩ := RR.out.r.lts
  refine wp_region_told (by kernel_rfl) (by kernel_rfl) (by kernel_rfl) [(w.heap.size, (Ar k)), (w.heap.size + 1, (P9 px py pn)), (w.heap.size + 1 + 1, (Ar l)), (w.heap.size + 1 + 1 + 1, (P9 qx qy qn))]
    [sV (A9 px py pn),
     sV (.bool true),
     sV (.bool false),
     sV (.bool false),
     sV (A9 qx qy qn),
     sV (.bool true),
     sV (.bool false),
     sV (.bool false)]
    (by kernel_rfl) RR.out.b (RowsAt.cons (RR.out.at 3 rfl) (RowsAt.cons (RR.out.at 2 rfl) (RowsAt.cons (RR.out.at 1 rfl) (RowsAt.cons (RR.out.at 0 rfl) RowsAt.nil)))) (StOk.of [] rfl StM.nil)
    (Obs.val (fun a' w' E => ob_loada 26 (.tmp 5) rfl (E.old 5 (by kernel_rfl)) (E.row (g := w.heap.size + 1) (c := (P9 px py pn)) 1 rfl) Try.underlying26 rfl (by kernel_rfl) rfl)
    (Obs.val (fun a' w' E => ob_fcall 11 _ _ rfl (am1 (E.new (v := (A9 px py pn)) 9 0 (by kernel_rfl) rfl)) (fc11 _ _) (hRp.out w'))
    (Obs.val (fun a' w' E => ob_unOp .not 4 (.tmp 10) rfl (E.new (v := (.bool true)) 10 1 (by kernel_rfl) rfl) (by simp [go_sem]))
    (Obs.val (fun a' w' E => ob_move (.tmp 11) rfl (E.new (v := (.bool false)) 11 2 (by kernel_rfl) rfl))
    (Obs.gval rfl rfl (fun a' w' E => E.new 12 3 (by kernel_rfl) rfl) (fun a' w' E => ob_loada 26 (.tmp 7) rfl (E.old 7 (by kernel_rfl)) (E.row (g := w.heap.size + 1 + 1 + 1) (c := (P9 qx qy qn)) 3 rfl) Try.underlying26 rfl (by kernel_rfl) rfl)
    (Obs.gval rfl rfl (fun a' w' E => E.new 12 3 (by kernel_rfl) rfl) (fun a' w' E => ob_fcall 11 _ _ rfl (am1 (E.new (v := (A9 qx qy qn)) 13 4 (by kernel_rfl) rfl)) (fc11 _ _) (hRq.out w'))
    (Obs.gval rfl rfl (fun a' w' E => E.new 12 3 (by kernel_rfl) rfl) (fun a' w' E => ob_unOp .not 4 (.tmp 14) rfl (E.new (v := (.bool true)) 14 5 (by kernel_rfl) rfl) (by simp [go_sem]))
    (Obs.val (fun a' w' E => ob_pick (.tmp 12) (.const (.bool true)) (.tmp 15) rfl (E.new (v := (.bool false)) 12 3 (by kernel_rfl) rfl) (E.new (v := (.bool false)) 15 6 (by kernel_rfl) rfl))
    Obs.nil)))))))) ?_
  intro bs w1 aZ haZ F
  have eZ : aZ = ({ tmps := #[(U k), (A9 px py pn), (U l), (A9 qx qy qn), (PT w.heap.size), (PT (w.heap.size + 1)), (PT (w.heap.size + 1 + 1)), (PT (w.heap.size + 1 + 1 + 1)), (.bool false), (A9 px py pn), (.bool true), (.bool false), (.bool false), (A9 qx qy qn), (.bool true), (.bool false), (.bool false), undef, undef, undef, undef, undef, undef, undef, undef, undef, undef, undef, undef, undef, undef, undef, undef, undef, undef, undef, undef, undef, undef, undef, undef], defers := [] } : Act) := haZ.trans (by kernel_rfl)
  subst eZ
  clear haZ
  replace RR : Hid (RB w w1 [(w.heap.size + 1 + 1 + 1, (P9 qx qy qn)), (w.heap.size + 1 + 1, (Ar l)), (w.heap.size + 1, (P9 px py pn)), (w.heap.size, (Ar k))]) := ⟨F.bw, (RowsAt.cons (F.row 3 rfl) (RowsAt.cons (F.row 2 rfl) (RowsAt.cons (F.row 1 rfl) (RowsAt.cons (F.row 0 rfl) RowsAt.nil))))⟩
  clear F qT q0 q1 q2 q3
  clear wF
  go_upto_region 3 with fail
  obtain ⟨q3, q2, q1, q0, qT⟩ := RR.out.r.lts
  refine wp_region_told (by kernel_rfl) (by kernel_rfl) (by kernel_rfl) [(w.heap.size, (Ar k)), (w.heap.size + 1, (P9 px py pn)), (w.heap.size + 1 + 1, (Ar l)), (w.heap.size + 1 + 1 + 1, (P9 qx qy qn))]
    [sV (U k),
     sV (A9 px py pn),
     sV (A9 mx my mn),
     sV (U k),
     sV (A9 px py pn),
     sV (A9 mx my mn),
     sV (.bool true),
     sV (.bool true),
     sV (U k),
     sV (A9 px py pn),
     sV (U l),
     sV (A9 qx qy qn),
     sV (A9 sx sy sn),
     sV (U k),
     sV (A9 px py pn),
     sV (U l),
     sV (A9 qx qy qn),
     sV (A9 sx sy sn),
     sV (.bool true),
     sV (.bool true),
     sV (.bool true),
     sV (.bool true),
     sV (.bool true),
     sV (.bool true)]
    (by kernel_rfl) RR.out.b (RowsAt.cons (RR.out.at 3 rfl) (RowsAt.cons (RR.out.at 2 rfl) (RowsAt.cons (RR.out.at 1 rfl) (RowsAt.cons (RR.out.at 0 rfl) RowsAt.nil)))) (StOk.of [] rfl StM.nil)
    (Obs.val (fun a' w' E => ob_loada 24 (.tmp 4) rfl (E.old 4 (by kernel_rfl)) (E.row (g := w.heap.size) (c := (Ar k)) 0 rfl) Try.underlying24 rfl (by kernel_rfl) rfl)
    (Obs.val (fun a' w' E => ob_loada 26 (.tmp 5) rfl (E.old 5 (by kernel_rfl)) (E.row (g := w.heap.size + 1) (c := (P9 px py pn)) 1 rfl) Try.underlying26 rfl (by kernel_rfl) rfl)
    (Obs.val (fun a' w' E => ob_fcall 23 _ _ rfl (am2 (E.new (v := (U k)) 18 0 (by kernel_rfl) rfl) (E.new (v := (A9 px py pn)) 19 1 (by kernel_rfl) rfl)) (fc23 _ _) (hM1.out w'))
    (Obs.val (fun a' w' E => ob_loada 24 (.tmp 4) rfl (E.old 4 (by kernel_rfl)) (E.row (g := w.heap.size) (c := (Ar k)) 0 rfl) Try.underlying24 rfl (by kernel_rfl) rfl)
    (Obs.val (fun a' w' E => ob_loada 26 (.tmp 5) rfl (E.old 5 (by kernel_rfl)) (E.row (g := w.heap.size + 1) (c := (P9 px py pn)) 1 rfl) Try.underlying26 rfl (by kernel_rfl) rfl)
    (Obs.val (fun a' w' E => ob_fcall 24 _ _ rfl (am2 (E.new (v := (U k)) 21 3 (by kernel_rfl) rfl) (E.new (v := (A9 px py pn)) 22 4 (by kernel_rfl) rfl)) (fc24 _ _) (hM2.out w'))
    (Obs.val (fun a' w' E => ob_binOp .eql 26 (.tmp 20) (.tmp 23) 26 rfl (E.new (v := (A9 mx my mn)) 20 2 (by kernel_rfl) rfl) (E.new (v := (A9 mx my mn)) 23 5 (by kernel_rfl) rfl) (by simp [go_sem, hE0]))
    (Obs.val (fun a' w' E => ob_move (.tmp 24) rfl (E.new (v := (.bool true)) 24 6 (by kernel_rfl) rfl))
    (Obs.gval rfl rfl (fun a' w' E => E.new 25 7 (by kernel_rfl) rfl) (fun a' w' E => ob_loada 24 (.tmp 4) rfl (E.old 4 (by kernel_rfl)) (E.row (g := w.heap.size) (c := (Ar k)) 0 rfl) Try.underlying24 rfl (by kernel_rfl) rfl)
    (Obs.gval rfl rfl (fun a' w' E => E.new 25 7 (by kernel_rfl) rfl) (fun a' w' E => ob_loada 26 (.tmp 5) rfl (E.old 5 (by kernel_rfl)) (E.row (g := w.heap.size + 1) (c := (P9 px py pn)) 1 rfl) Try.underlying26 rfl (by kernel_rfl) rfl)
    (Obs.gval rfl rfl (fun a' w' E => E.new 25 7 (by kernel_rfl) rfl) (fun a' w' E => ob_loada 24 (.tmp 6) rfl (E.old 6 (by kernel_rfl)) (E.row (g := w.heap.size + 1 + 1) (c := (Ar l)) 2 rfl) Try.underlying24 rfl (by kernel_rfl) rfl)
    (Obs.gval rfl rfl (fun a' w' E => E.new 25 7 (by kernel_rfl) rfl) (fun a' w' E => ob_loada 26 (.tmp 7) rfl (E.old 7 (by kernel_rfl)) (E.row (g := w.heap.size + 1 + 1 + 1) (c := (P9 qx qy qn)) 3 rfl) Try.underlying26 rfl (by kernel_rfl) rfl)
    (Obs.gval rfl rfl (fun a' w' E => E.new 25 7 (by kernel_rfl) rfl) (fun a' w' E => ob_fcall 25 _ _ rfl (am4 (E.new (v := (U k)) 26 8 (by kernel_rfl) rfl) (E.new (v := (A9 px py pn)) 27 9 (by kernel_rfl) rfl) (E.new (v := (U l)) 28 10 (by kernel_rfl) rfl) (E.new (v := (A9 qx qy qn)) 29 11 (by kernel_rfl) rfl)) (fc25 _ _) (hS1.out w'))
    (Obs.gval rfl rfl (fun a' w' E => E.new 25 7 (by kernel_rfl) rfl) (fun a' w' E => ob_loada 24 (.tmp 4) rfl (E.old 4 (by kernel_rfl)) (E.row (g := w.heap.size) (c := (Ar k)) 0 rfl) Try.underlying24 rfl (by kernel_rfl) rfl)
    (Obs.gval rfl rfl (fun a' w' E => E.new 25 7 (by kernel_rfl) rfl) (fun a' w' E => ob_loada 26 (.tmp 5) rfl (E.old 5 (by kernel_rfl)) (E.row (g := w.heap.size + 1) (c := (P9 px py pn)) 1 rfl) Try.underlying26 rfl (by kernel_rfl) rfl)
    (Obs.gval rfl rfl (fun a' w' E => E.new 25 7 (by kernel_rfl) rfl) (fun a' w' E => ob_loada 24 (.tmp 6) rfl (E.old 6 (by kernel_rfl)) (E.row (g := w.heap.size + 1 + 1) (c := (Ar l)) 2 rfl) Try.underlying24 rfl (by kernel_rfl) rfl)
    (Obs.gval rfl rfl (fun a' w' E => E.new 25 7 (by kernel_rfl) rfl) (fun a' w' E => ob_loada 26 (.tmp 7) rfl (E.old 7 (by kernel_rfl)) (E.row (g := w.heap.size + 1 + 1 + 1) (c := (P9 qx qy qn)) 3 rfl) Try.underlying26 rfl (by kernel_rfl) rfl)
    (Obs.gval rfl rfl (fun a' w' E => E.new 25 7 (by kernel_rfl) rfl) (fun a' w' E => ob_fcall 26 _ _ rfl (am4 (E.new (v := (U k)) 31 13 (by kernel_rfl) rfl) (E.new (v := (A9 px py pn)) 32 14 (by kernel_rfl) rfl) (E.new (v := (U l)) 33 15 (by kernel_rfl) rfl) (E.new (v := (A9 qx qy qn)) 34 16 (by kernel_rfl) rfl)) (fc26 _ _) (hS2.out w'))
    (Obs.gval rfl rfl (fun a' w' E => E.new 25 7 (by kernel_rfl) rfl) (fun a' w' E => ob_binOp .eql 26 (.tmp 30) (.tmp 35) 26 rfl (E.new (v := (A9 sx sy sn)) 30 12 (by kernel_rfl) rfl) (E.new (v := (A9 sx sy sn)) 35 17 (by kernel_rfl) rfl) (by simp [go_sem, hE1]))
    (Obs.val (fun a' w' E => ob_pick (.tmp 25) (.tmp 36) (.const (.bool false)) rfl (E.new (v := (.bool true)) 25 7 (by kernel_rfl) rfl) (E.new (v := (.bool true)) 36 18 (by kernel_rfl) rfl))
    (Obs.val (fun a' w' E => ob_move (.tmp 37) rfl (E.new (v := (.bool true)) 37 19 (by kernel_rfl) rfl))
    (Obs.gval rfl rfl (fun a' w' E => E.new 38 20 (by kernel_rfl) rfl) (fun a' w' E => ob_fcall 18 _ _ rfl (am0) (fc18 _ _) (hW.out w'))
    (Obs.val (fun a' w' E => ob_pick (.tmp 38) (.tmp 39) (.const (.bool false)) rfl (E.new (v := (.bool true)) 38 20 (by kernel_rfl) rfl) (E.new (v := (.bool true)) 39 21 (by kernel_rfl) rfl))
    (Obs.val (fun a' w' E => ob_assign (.tmp 40) rfl (E.new (v := (.bool true)) 40 22 (by kernel_rfl) rfl))
    Obs.nil)))))))))))))))))))))))) ?_
  intro bs w2 aZ haZ F
  have eZ : aZ = ({ tmps := #[(U k), (A9 px py pn), (U l), (A9 qx qy qn), (PT w.heap.size), (PT (w.heap.size + 1)), (PT (w.heap.size + 1 + 1)), (PT (w.heap.size + 1 + 1 + 1)), (.bool true), (A9 px py pn), (.bool true), (.bool false), (.bool false), (A9 qx qy qn), (.bool true), (.bool false), (.bool false), undef, (U k), (A9 px py pn), (A9 mx my mn), (U k), (A9 px py pn), (A9 mx my mn), (.bool true), (.bool true), (U k), (A9 px py pn), (U l), (A9 qx qy qn), (A9 sx sy sn), (U k), (A9 px py pn), (U l), (A9 qx qy qn), (A9 sx sy sn), (.bool true), (.bool true), (.bool true), (.bool true), (.bool true)], defers := [] } : Act) := haZ.trans (by kernel_rfl)
  subst eZ
  clear haZ
  replace RR : Hid (RB w w2 [(w.heap.size + 1 + 1 + 1, (P9 qx qy qn)), (w.heap.size + 1 + 1, (Ar l)), (w.heap.size + 1, (P9 px py pn)), (w.heap.size, (Ar k))]) := ⟨F.bw, (RowsAt.cons (F.row 3 rfl) (RowsAt.cons (F.row 2 rfl) (RowsAt.cons (F.row 1 rfl) (RowsAt.cons (F.row 0 rfl) RowsAt.nil))))⟩
  clear F qT q0 q1 q2 q3
  go_wp2
  exact bodyPost_ret (v := (.bool true)) (by simp [results, Try.results4, go_sem]) rfl ⟨rfl, RR.out.b⟩
end Go.Proofs.Ythbindnkichimaa
