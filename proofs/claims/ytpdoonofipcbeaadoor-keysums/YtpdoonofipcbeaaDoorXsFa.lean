/- Raw walks of the program's numbers by the prime, over letters. -/
import Derived.Test.YtpdoonofipcbeaaDoorXsAy
import Derived.Test.YtpdoonofipcbeaaDoorXsQc
import Derived.WalkSmall
import Derived.Deep.Cut
import Derived.Deep.Light
namespace Go.Proofs.YtpdoonofipcbeaaDoor
open Go.RowKit Go.Sort
set_option linter.unusedVariables false
set_option maxRecDepth 100000 in
set_option maxHeartbeats 4000000 in
theorem step_raw (x y c d : Nat) {h0 l1 s2 c3 u4 s5 c6 u7 : Nat}
    (c1 : Does 57 #[(B x), (B y)] (.tuple #[(B h0), (B l1)]))
    (c2 : XDoes 44 #[(B l1), (B c), (.int .u64 0)] (.tuple #[(B s2), (B c3)]))
    (e3 : IntKind.u64.wrap ((h0 : Int) + (c3 : Int)) = (u4 : Int))
    (c4 : XDoes 44 #[(B s2), (B d), (.int .u64 0)] (.tuple #[(B s5), (B c6)]))
    (e5 : IntKind.u64.wrap ((u4 : Int) + (c6 : Int)) = (u7 : Int))
    (w : World) : Calls Tryd.prog 85 #[(B x), (B y), (B c), (B d)] w fun e w' => e = .returned (.tuple #[(B u7), (B s5)]) ∧ Below w.heap.size w w' := by
  go_enter Tryd.func85, Tryd.ntmps85
  go_upto_region 1 with fail
  refine name_world _ ?_
  intro wF hF0
  have RR : Hid (RB w wF []) := by rw [hF0]; exact (rb0 w)
  clear hF0
  refine wp_region_told (by kernel_rfl) (by kernel_rfl) (by kernel_rfl) []
    [sV (B x),
     sV (B y),
     sV (.tuple #[(B h0), (B l1)]),
     sV (.tuple #[(B h0), (B l1)]),
     sV (B h0),
     sV (B l1),
     sV (B h0),
     sV (B l1)]
    (by kernel_rfl) RR.out.b RowsAt.nil (StOk.of [] rfl StM.nil)
    (Obs.val (fun a' w' E => ob_move (.tmp 0) rfl (E.old 0 (by kernel_rfl)))
    (Obs.val (fun a' w' E => ob_move (.tmp 1) rfl (E.old 1 (by kernel_rfl)))
    (Obs.val (fun a' w' E => ob_fcall 57 _ _ rfl (am2 (E.new (v := (B x)) 12 0 (by kernel_rfl) rfl) (E.new (v := (B y)) 13 1 (by kernel_rfl) rfl)) (fc57 _ _) (c1.out w'))
    (Obs.val (fun a' w' E => ob_move (.tmp 14) rfl (E.new (v := (.tuple #[(B h0), (B l1)])) 14 2 (by kernel_rfl) rfl))
    (Obs.val (fun a' w' E => ob_extract (.tmp 11) 0 rfl (E.new (v := (.tuple #[(B h0), (B l1)])) 11 3 (by kernel_rfl) rfl) rfl)
    (Obs.val (fun a' w' E => ob_extract (.tmp 11) 1 rfl (E.new (v := (.tuple #[(B h0), (B l1)])) 11 3 (by kernel_rfl) rfl) rfl)
    (Obs.val (fun a' w' E => ob_assign (.tmp 15) rfl (E.new (v := (B h0)) 15 4 (by kernel_rfl) rfl))
    (Obs.val (fun a' w' E => ob_assign (.tmp 16) rfl (E.new (v := (B l1)) 16 5 (by kernel_rfl) rfl))
    Obs.nil)))))))) ?_
  intro bs w1 aZ haZ F
  have eZ : aZ = ({ tmps := #[(B x), (B y), (B c), (B d), undef, undef, undef, undef, (B h0), (B l1), undef, (.tuple #[(B h0), (B l1)]), (B x), (B y), (.tuple #[(B h0), (B l1)]), (B h0), (B l1), undef, undef, undef, undef, undef, undef, undef, undef, undef, undef, undef, undef, undef, undef, undef, undef, undef, undef, undef], defers := [] } : Act) := haZ.trans (by kernel_rfl)
  subst eZ
  clear haZ
  replace RR : Hid (RB w w1 []) := ⟨F.bw, RowsAt.nil⟩
  clear F 
  clear wF
  go_upto_region 2 with fail
  refine wp_region_told (by kernel_rfl) (by kernel_rfl) (by kernel_rfl) []
    [sV (B l1),
     sV (B c),
     sV (.tuple #[(B s2), (B c3)]),
     sV (.tuple #[(B s2), (B c3)]),
     sV (B s2),
     sV (B c3),
     sV (B s2),
     sV (B c3)]
    (by kernel_rfl) RR.out.b RowsAt.nil (StOk.of [] rfl StM.nil)
    (Obs.val (fun a' w' E => ob_move (.tmp 9) rfl (E.olds 9 6 (by kernel_rfl) (by kernel_rfl)))
    (Obs.val (fun a' w' E => ob_move (.tmp 2) rfl (E.old 2 (by kernel_rfl)))
    (Obs.val (fun a' w' E => ob_xcall 44 _ _ rfl (am3 (E.new (v := (B l1)) 18 0 (by kernel_rfl) rfl) (E.new (v := (B c)) 19 1 (by kernel_rfl) rfl) (evc a' (.int .u64 0))) (xc44 _ _) (c2.out w'))
    (Obs.val (fun a' w' E => ob_move (.tmp 20) rfl (E.new (v := (.tuple #[(B s2), (B c3)])) 20 2 (by kernel_rfl) rfl))
    (Obs.val (fun a' w' E => ob_extract (.tmp 17) 0 rfl (E.new (v := (.tuple #[(B s2), (B c3)])) 17 3 (by kernel_rfl) rfl) rfl)
    (Obs.val (fun a' w' E => ob_extract (.tmp 17) 1 rfl (E.new (v := (.tuple #[(B s2), (B c3)])) 17 3 (by kernel_rfl) rfl) rfl)
    (Obs.val (fun a' w' E => ob_assign (.tmp 21) rfl (E.new (v := (B s2)) 21 4 (by kernel_rfl) rfl))
    (Obs.val (fun a' w' E => ob_assign (.tmp 22) rfl (E.new (v := (B c3)) 22 5 (by kernel_rfl) rfl))
    Obs.nil)))))))) ?_
  intro bs w2 aZ haZ F
  have eZ : aZ = ({ tmps := #[(B x), (B y), (B c), (B d), undef, undef, undef, undef, (B h0), (B s2), (B c3), (.tuple #[(B h0), (B l1)]), (B x), (B y), (.tuple #[(B h0), (B l1)]), (B h0), (B l1), (.tuple #[(B s2), (B c3)]), (B l1), (B c), (.tuple #[(B s2), (B c3)]), (B s2), (B c3), undef, undef, undef, undef, undef, undef, undef, undef, undef, undef, undef, undef, undef], defers := [] } : Act) := haZ.trans (by kernel_rfl)
  subst eZ
  clear haZ
  replace RR : Hid (RB w w2 []) := ⟨F.bw, RowsAt.nil⟩
  clear F 
  go_upto_region 3 with fail
  refine wp_region_told (by kernel_rfl) (by kernel_rfl) (by kernel_rfl) []
    [sV (B h0),
     sV (B c3),
     sV (B u4),
     sV (B u4)]
    (by kernel_rfl) RR.out.b RowsAt.nil (StOk.of [] rfl StM.nil)
    (Obs.val (fun a' w' E => ob_move (.tmp 8) rfl (E.olds 8 3 (by kernel_rfl) (by kernel_rfl)))
    (Obs.val (fun a' w' E => ob_move (.tmp 10) rfl (E.old 10 (by kernel_rfl)))
    (Obs.val (fun a' w' E => ob_binOp .add 22 (.tmp 23) (.tmp 24) 22 rfl (E.new (v := (B h0)) 23 0 (by kernel_rfl) rfl) (E.new (v := (B c3)) 24 1 (by kernel_rfl) rfl) (by simp [go_sem, e3]))
    (Obs.val (fun a' w' E => ob_assign (.tmp 25) rfl (E.new (v := (B u4)) 25 2 (by kernel_rfl) rfl))
    Obs.nil)))) ?_
  intro bs w3 aZ haZ F
  have eZ : aZ = ({ tmps := #[(B x), (B y), (B c), (B d), undef, undef, undef, undef, (B u4), (B s2), (B c3), (.tuple #[(B h0), (B l1)]), (B x), (B y), (.tuple #[(B h0), (B l1)]), (B h0), (B l1), (.tuple #[(B s2), (B c3)]), (B l1), (B c), (.tuple #[(B s2), (B c3)]), (B s2), (B c3), (B h0), (B c3), (B u4), undef, undef, undef, undef, undef, undef, undef, undef, undef, undef], defers := [] } : Act) := haZ.trans (by kernel_rfl)
  subst eZ
  clear haZ
  replace RR : Hid (RB w w3 []) := ⟨F.bw, RowsAt.nil⟩
  clear F 
  go_upto_region 4 with fail
  refine wp_region_told (by kernel_rfl) (by kernel_rfl) (by kernel_rfl) []
    [sV (B s2),
     sV (B d),
     sV (.tuple #[(B s5), (B c6)]),
     sV (.tuple #[(B s5), (B c6)]),
     sV (B s5),
     sV (B c6),
     sV (B s5),
     sV (B c6)]
    (by kernel_rfl) RR.out.b RowsAt.nil (StOk.of [] rfl StM.nil)
    (Obs.val (fun a' w' E => ob_move (.tmp 9) rfl (E.olds 9 6 (by kernel_rfl) (by kernel_rfl)))
    (Obs.val (fun a' w' E => ob_move (.tmp 3) rfl (E.old 3 (by kernel_rfl)))
    (Obs.val (fun a' w' E => ob_xcall 44 _ _ rfl (am3 (E.new (v := (B s2)) 27 0 (by kernel_rfl) rfl) (E.new (v := (B d)) 28 1 (by kernel_rfl) rfl) (evc a' (.int .u64 0))) (xc44 _ _) (c4.out w'))
    (Obs.val (fun a' w' E => ob_move (.tmp 29) rfl (E.new (v := (.tuple #[(B s5), (B c6)])) 29 2 (by kernel_rfl) rfl))
    (Obs.val (fun a' w' E => ob_extract (.tmp 26) 0 rfl (E.new (v := (.tuple #[(B s5), (B c6)])) 26 3 (by kernel_rfl) rfl) rfl)
    (Obs.val (fun a' w' E => ob_extract (.tmp 26) 1 rfl (E.new (v := (.tuple #[(B s5), (B c6)])) 26 3 (by kernel_rfl) rfl) rfl)
    (Obs.val (fun a' w' E => ob_assign (.tmp 30) rfl (E.new (v := (B s5)) 30 4 (by kernel_rfl) rfl))
    (Obs.val (fun a' w' E => ob_assign (.tmp 31) rfl (E.new (v := (B c6)) 31 5 (by kernel_rfl) rfl))
    Obs.nil)))))))) ?_
  intro bs w4 aZ haZ F
  have eZ : aZ = ({ tmps := #[(B x), (B y), (B c), (B d), undef, undef, undef, undef, (B u4), (B s5), (B c6), (.tuple #[(B h0), (B l1)]), (B x), (B y), (.tuple #[(B h0), (B l1)]), (B h0), (B l1), (.tuple #[(B s2), (B c3)]), (B l1), (B c), (.tuple #[(B s2), (B c3)]), (B s2), (B c3), (B h0), (B c3), (B u4), (.tuple #[(B s5), (B c6)]), (B s2), (B d), (.tuple #[(B s5), (B c6)]), (B s5), (B c6), undef, undef, undef, undef], defers := [] } : Act) := haZ.trans (by kernel_rfl)
  subst eZ
  clear haZ
  replace RR : Hid (RB w w4 []) := ⟨F.bw, RowsAt.nil⟩
  clear F 
  go_upto_region 5 with fail
  refine wp_region_told (by kernel_rfl) (by kernel_rfl) (by kernel_rfl) []
    [sV (B u4),
     sV (B c6),
     sV (B u7),
     sV (B s5),
     sV (B u7),
     sV (B s5)]
    (by kernel_rfl) RR.out.b RowsAt.nil (StOk.of [] rfl StM.nil)
    (Obs.val (fun a' w' E => ob_move (.tmp 8) rfl (E.olds 8 4 (by kernel_rfl) (by kernel_rfl)))
    (Obs.val (fun a' w' E => ob_move (.tmp 10) rfl (E.old 10 (by kernel_rfl)))
    (Obs.val (fun a' w' E => ob_binOp .add 22 (.tmp 32) (.tmp 33) 22 rfl (E.new (v := (B u4)) 32 0 (by kernel_rfl) rfl) (E.new (v := (B c6)) 33 1 (by kernel_rfl) rfl) (by simp [go_sem, e5]))
    (Obs.val (fun a' w' E => ob_move (.tmp 9) rfl (E.olds 9 5 (by kernel_rfl) (by kernel_rfl)))
    (Obs.val (fun a' w' E => ob_assign (.tmp 34) rfl (E.new (v := (B u7)) 34 2 (by kernel_rfl) rfl))
    (Obs.val (fun a' w' E => ob_assign (.tmp 35) rfl (E.new (v := (B s5)) 35 3 (by kernel_rfl) rfl))
    Obs.nil)))))) ?_
  intro bs w5 aZ haZ F
  have eZ : aZ = ({ tmps := #[(B x), (B y), (B c), (B d), undef, undef, undef, undef, (B u7), (B s5), (B c6), (.tuple #[(B h0), (B l1)]), (B x), (B y), (.tuple #[(B h0), (B l1)]), (B h0), (B l1), (.tuple #[(B s2), (B c3)]), (B l1), (B c), (.tuple #[(B s2), (B c3)]), (B s2), (B c3), (B h0), (B c3), (B u4), (.tuple #[(B s5), (B c6)]), (B s2), (B d), (.tuple #[(B s5), (B c6)]), (B s5), (B c6), (B u4), (B c6), (B u7), (B s5)], defers := [] } : Act) := haZ.trans (by kernel_rfl)
  subst eZ
  clear haZ
  replace RR : Hid (RB w w5 []) := ⟨F.bw, RowsAt.nil⟩
  clear F 
  go_wp2
  exact bodyPost_ret (v := (.tuple #[(B u7), (B s5)])) (by simp [results, Tryd.results85, go_sem]) rfl ⟨rfl, RR.out.b⟩
set_option maxRecDepth 100000 in
set_option maxHeartbeats 4000000 in
theorem settled_lo (s0 s1 s2 s3 ov : Nat) {s_0 c_1 s_2 c_3 s_4 c_5 s_6 c_7 u_8 : Nat}
    (c1 : XDoes 44 #[(B s0), (.int .u64 4294968273), (.int .u64 0)] (.tuple #[(B s_0), (B c_1)]))
    (c2 : XDoes 44 #[(B s1), (.int .u64 0), (B c_1)] (.tuple #[(B s_2), (B c_3)]))
    (c3 : XDoes 44 #[(B s2), (.int .u64 0), (B c_3)] (.tuple #[(B s_4), (B c_5)]))
    (c4 : XDoes 44 #[(B s3), (.int .u64 0), (B c_5)] (.tuple #[(B s_6), (B c_7)]))
    (e5 : bits .or .u64 (c_7 : Int) (ov : Int) = (u_8 : Int))
    (e6 : ((u_8 : Int) == (0 : Int)) = true)
    (w : World) : Calls Tryd.prog 92 #[(B s0), (B s1), (B s2), (B s3), (B ov)] w fun e w' => e = .returned (.agg #[B s0, B s1, B s2, B s3]) ∧ Below w.heap.size w w' := by
  go_enter Tryd.func92, Tryd.ntmps92
  go_upto_region 1 with fail
  refine name_world _ ?_
  intro wF hF0
  have RR : Hid (RB w wF [(w.heap.size, Zr)]) := by rw [hF0]; exact (rbN (rb0 w) (by simp))
  clear hF0
  obtain ⟨q0, qT⟩ := RR.out.r.lts
  refine wp_region_told (by kernel_rfl) (by kernel_rfl) (by kernel_rfl) [(w.heap.size, Zr)]
    [sV (B s0),
     sV (.tuple #[(B s_0), (B c_1)]),
     sV (.tuple #[(B s_0), (B c_1)]),
     sV (B s_0),
     sV (B c_1),
     sV (B s_0),
     sV (B c_1)]
    (by kernel_rfl) RR.out.b (RowsAt.cons (RR.out.at 0 rfl) RowsAt.nil) (StOk.of [] rfl StM.nil)
    (Obs.val (fun a' w' E => ob_move (.tmp 0) rfl (E.old 0 (by kernel_rfl)))
    (Obs.val (fun a' w' E => ob_xcall 44 _ _ rfl (am3 (E.new (v := (B s0)) 17 0 (by kernel_rfl) rfl) (evc a' (.int .u64 4294968273)) (evc a' (.int .u64 0))) (xc44 _ _) (c1.out w'))
    (Obs.val (fun a' w' E => ob_move (.tmp 18) rfl (E.new (v := (.tuple #[(B s_0), (B c_1)])) 18 1 (by kernel_rfl) rfl))
    (Obs.val (fun a' w' E => ob_extract (.tmp 16) 0 rfl (E.new (v := (.tuple #[(B s_0), (B c_1)])) 16 2 (by kernel_rfl) rfl) rfl)
    (Obs.val (fun a' w' E => ob_extract (.tmp 16) 1 rfl (E.new (v := (.tuple #[(B s_0), (B c_1)])) 16 2 (by kernel_rfl) rfl) rfl)
    (Obs.val (fun a' w' E => ob_assign (.tmp 19) rfl (E.new (v := (B s_0)) 19 3 (by kernel_rfl) rfl))
    (Obs.val (fun a' w' E => ob_assign (.tmp 20) rfl (E.new (v := (B c_1)) 20 4 (by kernel_rfl) rfl))
    Obs.nil))))))) ?_
  intro bs w1 aZ haZ F
  have eZ : aZ = ({ tmps := #[(B s0), (B s1), (B s2), (B s3), (B ov), undef, undef, undef, undef, undef, (PT w.heap.size), (B s_0), (B c_1), undef, undef, undef, (.tuple #[(B s_0), (B c_1)]), (B s0), (.tuple #[(B s_0), (B c_1)]), (B s_0), (B c_1), undef, undef, undef, undef, undef, undef, undef, undef, undef, undef, undef, undef, undef, undef, undef, undef, undef, undef, undef, undef, undef, undef, undef, undef, undef, undef, undef, undef, undef, undef, undef, undef], defers := [] } : Act) := haZ.trans (by kernel_rfl)
  subst eZ
  clear haZ
  replace RR : Hid (RB w w1 [(w.heap.size, Zr)]) := ⟨F.bw, (RowsAt.cons (F.row 0 rfl) RowsAt.nil)⟩
  clear F qT q0
  clear wF
  go_upto_region 2 with fail
  obtain ⟨q0, qT⟩ := RR.out.r.lts
  refine wp_region_told (by kernel_rfl) (by kernel_rfl) (by kernel_rfl) [(w.heap.size, Zr)]
    [sV (B s1),
     sV (B c_1),
     sV (.tuple #[(B s_2), (B c_3)]),
     sV (.tuple #[(B s_2), (B c_3)]),
     sV (B s_2),
     sV (B c_3),
     sV (B s_2),
     sV (B c_3)]
    (by kernel_rfl) RR.out.b (RowsAt.cons (RR.out.at 0 rfl) RowsAt.nil) (StOk.of [] rfl StM.nil)
    (Obs.val (fun a' w' E => ob_move (.tmp 1) rfl (E.old 1 (by kernel_rfl)))
    (Obs.val (fun a' w' E => ob_move (.tmp 12) rfl (E.olds 12 7 (by kernel_rfl) (by kernel_rfl)))
    (Obs.val (fun a' w' E => ob_xcall 44 _ _ rfl (am3 (E.new (v := (B s1)) 22 0 (by kernel_rfl) rfl) (evc a' (.int .u64 0)) (E.new (v := (B c_1)) 23 1 (by kernel_rfl) rfl)) (xc44 _ _) (c2.out w'))
    (Obs.val (fun a' w' E => ob_move (.tmp 24) rfl (E.new (v := (.tuple #[(B s_2), (B c_3)])) 24 2 (by kernel_rfl) rfl))
    (Obs.val (fun a' w' E => ob_extract (.tmp 21) 0 rfl (E.new (v := (.tuple #[(B s_2), (B c_3)])) 21 3 (by kernel_rfl) rfl) rfl)
    (Obs.val (fun a' w' E => ob_extract (.tmp 21) 1 rfl (E.new (v := (.tuple #[(B s_2), (B c_3)])) 21 3 (by kernel_rfl) rfl) rfl)
    (Obs.val (fun a' w' E => ob_assign (.tmp 25) rfl (E.new (v := (B s_2)) 25 4 (by kernel_rfl) rfl))
    (Obs.val (fun a' w' E => ob_assign (.tmp 26) rfl (E.new (v := (B c_3)) 26 5 (by kernel_rfl) rfl))
    Obs.nil)))))))) ?_
  intro bs w2 aZ haZ F
  have eZ : aZ = ({ tmps := #[(B s0), (B s1), (B s2), (B s3), (B ov), undef, undef, undef, undef, undef, (PT w.heap.size), (B s_0), (B c_3), (B s_2), undef, undef, (.tuple #[(B s_0), (B c_1)]), (B s0), (.tuple #[(B s_0), (B c_1)]), (B s_0), (B c_1), (.tuple #[(B s_2), (B c_3)]), (B s1), (B c_1), (.tuple #[(B s_2), (B c_3)]), (B s_2), (B c_3), undef, undef, undef, undef, undef, undef, undef, undef, undef, undef, undef, undef, undef, undef, undef, undef, undef, undef, undef, undef, undef, undef, undef, undef, undef, undef], defers := [] } : Act) := haZ.trans (by kernel_rfl)
  subst eZ
  clear haZ
  replace RR : Hid (RB w w2 [(w.heap.size, Zr)]) := ⟨F.bw, (RowsAt.cons (F.row 0 rfl) RowsAt.nil)⟩
  clear F qT q0
  go_upto_region 3 with fail
  obtain ⟨q0, qT⟩ := RR.out.r.lts
  refine wp_region_told (by kernel_rfl) (by kernel_rfl) (by kernel_rfl) [(w.heap.size, Zr)]
    [sV (B s2),
     sV (B c_3),
     sV (.tuple #[(B s_4), (B c_5)]),
     sV (.tuple #[(B s_4), (B c_5)]),
     sV (B s_4),
     sV (B c_5),
     sV (B s_4),
     sV (B c_5)]
    (by kernel_rfl) RR.out.b (RowsAt.cons (RR.out.at 0 rfl) RowsAt.nil) (StOk.of [] rfl StM.nil)
    (Obs.val (fun a' w' E => ob_move (.tmp 2) rfl (E.old 2 (by kernel_rfl)))
    (Obs.val (fun a' w' E => ob_move (.tmp 12) rfl (E.olds 12 7 (by kernel_rfl) (by kernel_rfl)))
    (Obs.val (fun a' w' E => ob_xcall 44 _ _ rfl (am3 (E.new (v := (B s2)) 28 0 (by kernel_rfl) rfl) (evc a' (.int .u64 0)) (E.new (v := (B c_3)) 29 1 (by kernel_rfl) rfl)) (xc44 _ _) (c3.out w'))
    (Obs.val (fun a' w' E => ob_move (.tmp 30) rfl (E.new (v := (.tuple #[(B s_4), (B c_5)])) 30 2 (by kernel_rfl) rfl))
    (Obs.val (fun a' w' E => ob_extract (.tmp 27) 0 rfl (E.new (v := (.tuple #[(B s_4), (B c_5)])) 27 3 (by kernel_rfl) rfl) rfl)
    (Obs.val (fun a' w' E => ob_extract (.tmp 27) 1 rfl (E.new (v := (.tuple #[(B s_4), (B c_5)])) 27 3 (by kernel_rfl) rfl) rfl)
    (Obs.val (fun a' w' E => ob_assign (.tmp 31) rfl (E.new (v := (B s_4)) 31 4 (by kernel_rfl) rfl))
    (Obs.val (fun a' w' E => ob_assign (.tmp 32) rfl (E.new (v := (B c_5)) 32 5 (by kernel_rfl) rfl))
    Obs.nil)))))))) ?_
  intro bs w3 aZ haZ F
  have eZ : aZ = ({ tmps := #[(B s0), (B s1), (B s2), (B s3), (B ov), undef, undef, undef, undef, undef, (PT w.heap.size), (B s_0), (B c_5), (B s_2), (B s_4), undef, (.tuple #[(B s_0), (B c_1)]), (B s0), (.tuple #[(B s_0), (B c_1)]), (B s_0), (B c_1), (.tuple #[(B s_2), (B c_3)]), (B s1), (B c_1), (.tuple #[(B s_2), (B c_3)]), (B s_2), (B c_3), (.tuple #[(B s_4), (B c_5)]), (B s2), (B c_3), (.tuple #[(B s_4), (B c_5)]), (B s_4), (B c_5), undef, undef, undef, undef, undef, undef, undef, undef, undef, undef, undef, undef, undef, undef, undef, undef, undef, undef, undef, undef], defers := [] } : Act) := haZ.trans (by kernel_rfl)
  subst eZ
  clear haZ
  replace RR : Hid (RB w w3 [(w.heap.size, Zr)]) := ⟨F.bw, (RowsAt.cons (F.row 0 rfl) RowsAt.nil)⟩
  clear F qT q0
  go_upto_region 4 with fail
  obtain ⟨q0, qT⟩ := RR.out.r.lts
  refine wp_region_told (by kernel_rfl) (by kernel_rfl) (by kernel_rfl) [(w.heap.size, Zr)]
    [sV (B s3),
     sV (B c_5),
     sV (.tuple #[(B s_6), (B c_7)]),
     sV (.tuple #[(B s_6), (B c_7)]),
     sV (B s_6),
     sV (B c_7),
     sV (B s_6),
     sV (B c_7)]
    (by kernel_rfl) RR.out.b (RowsAt.cons (RR.out.at 0 rfl) RowsAt.nil) (StOk.of [] rfl StM.nil)
    (Obs.val (fun a' w' E => ob_move (.tmp 3) rfl (E.old 3 (by kernel_rfl)))
    (Obs.val (fun a' w' E => ob_move (.tmp 12) rfl (E.olds 12 7 (by kernel_rfl) (by kernel_rfl)))
    (Obs.val (fun a' w' E => ob_xcall 44 _ _ rfl (am3 (E.new (v := (B s3)) 34 0 (by kernel_rfl) rfl) (evc a' (.int .u64 0)) (E.new (v := (B c_5)) 35 1 (by kernel_rfl) rfl)) (xc44 _ _) (c4.out w'))
    (Obs.val (fun a' w' E => ob_move (.tmp 36) rfl (E.new (v := (.tuple #[(B s_6), (B c_7)])) 36 2 (by kernel_rfl) rfl))
    (Obs.val (fun a' w' E => ob_extract (.tmp 33) 0 rfl (E.new (v := (.tuple #[(B s_6), (B c_7)])) 33 3 (by kernel_rfl) rfl) rfl)
    (Obs.val (fun a' w' E => ob_extract (.tmp 33) 1 rfl (E.new (v := (.tuple #[(B s_6), (B c_7)])) 33 3 (by kernel_rfl) rfl) rfl)
    (Obs.val (fun a' w' E => ob_assign (.tmp 37) rfl (E.new (v := (B s_6)) 37 4 (by kernel_rfl) rfl))
    (Obs.val (fun a' w' E => ob_assign (.tmp 38) rfl (E.new (v := (B c_7)) 38 5 (by kernel_rfl) rfl))
    Obs.nil)))))))) ?_
  intro bs w4 aZ haZ F
  have eZ : aZ = ({ tmps := #[(B s0), (B s1), (B s2), (B s3), (B ov), undef, undef, undef, undef, undef, (PT w.heap.size), (B s_0), (B c_7), (B s_2), (B s_4), (B s_6), (.tuple #[(B s_0), (B c_1)]), (B s0), (.tuple #[(B s_0), (B c_1)]), (B s_0), (B c_1), (.tuple #[(B s_2), (B c_3)]), (B s1), (B c_1), (.tuple #[(B s_2), (B c_3)]), (B s_2), (B c_3), (.tuple #[(B s_4), (B c_5)]), (B s2), (B c_3), (.tuple #[(B s_4), (B c_5)]), (B s_4), (B c_5), (.tuple #[(B s_6), (B c_7)]), (B s3), (B c_5), (.tuple #[(B s_6), (B c_7)]), (B s_6), (B c_7), undef, undef, undef, undef, undef, undef, undef, undef, undef, undef, undef, undef, undef, undef], defers := [] } : Act) := haZ.trans (by kernel_rfl)
  subst eZ
  clear haZ
  replace RR : Hid (RB w w4 [(w.heap.size, Zr)]) := ⟨F.bw, (RowsAt.cons (F.row 0 rfl) RowsAt.nil)⟩
  clear F qT q0
  go_upto_region 5 with fail
  obtain ⟨q0, qT⟩ := RR.out.r.lts
  refine wp_region_told (by kernel_rfl) (by kernel_rfl) (by kernel_rfl) [(w.heap.size, Zr)]
    [sV (B c_7),
     sV (B ov),
     sV (B u_8),
     sV (.bool true)]
    (by kernel_rfl) RR.out.b (RowsAt.cons (RR.out.at 0 rfl) RowsAt.nil) (StOk.of [] rfl StM.nil)
    (Obs.val (fun a' w' E => ob_move (.tmp 12) rfl (E.old 12 (by kernel_rfl)))
    (Obs.val (fun a' w' E => ob_move (.tmp 4) rfl (E.old 4 (by kernel_rfl)))
    (Obs.val (fun a' w' E => ob_binOp .or 22 (.tmp 39) (.tmp 40) 22 rfl (E.new (v := (B c_7)) 39 0 (by kernel_rfl) rfl) (E.new (v := (B ov)) 40 1 (by kernel_rfl) rfl) (by simp [go_sem, e5]))
    (Obs.val (fun a' w' E => ob_binOp .eql 22 (.tmp 41) (.const (.int .u64 0)) 22 rfl (E.new (v := (B u_8)) 41 2 (by kernel_rfl) rfl) (evc a' (.int .u64 0)) (by simp [go_sem, e6]))
    Obs.nil)))) ?_
  intro bs w5 aZ haZ F
  have eZ : aZ = ({ tmps := #[(B s0), (B s1), (B s2), (B s3), (B ov), undef, undef, undef, undef, undef, (PT w.heap.size), (B s_0), (B c_7), (B s_2), (B s_4), (B s_6), (.tuple #[(B s_0), (B c_1)]), (B s0), (.tuple #[(B s_0), (B c_1)]), (B s_0), (B c_1), (.tuple #[(B s_2), (B c_3)]), (B s1), (B c_1), (.tuple #[(B s_2), (B c_3)]), (B s_2), (B c_3), (.tuple #[(B s_4), (B c_5)]), (B s2), (B c_3), (.tuple #[(B s_4), (B c_5)]), (B s_4), (B c_5), (.tuple #[(B s_6), (B c_7)]), (B s3), (B c_5), (.tuple #[(B s_6), (B c_7)]), (B s_6), (B c_7), (B c_7), (B ov), (B u_8), (.bool true), undef, undef, undef, undef, undef, undef, undef, undef, undef, undef], defers := [] } : Act) := haZ.trans (by kernel_rfl)
  subst eZ
  clear haZ
  replace RR : Hid (RB w w5 [(w.heap.size, Zr)]) := ⟨F.bw, (RowsAt.cons (F.row 0 rfl) RowsAt.nil)⟩
  clear F qT q0
  go_upto_region 6 with fail
  obtain ⟨q0, qT⟩ := RR.out.r.lts
  refine wp_region_told (by kernel_rfl) (by kernel_rfl) (by kernel_rfl) []
    [sV (B s0),
     sV (B s1),
     sV (B s2),
     sV (B s3),
     sV (.agg #[B s0, B s1, B s2, B s3]),
     sK (w.heap.size) Zr #[B s0, B s1, B s2, B s3]]
    (by kernel_rfl) RR.out.b RowsAt.nil (StOk.of [(w.heap.size, Zr)] rfl (StM.cons (RR.out.at 0 rfl) (by omega) Apart.nil Apart.nil StM.nil))
    (Obs.val (fun a' w' E => ob_move (.tmp 0) rfl (E.old 0 (by kernel_rfl)))
    (Obs.val (fun a' w' E => ob_move (.tmp 1) rfl (E.old 1 (by kernel_rfl)))
    (Obs.val (fun a' w' E => ob_move (.tmp 2) rfl (E.old 2 (by kernel_rfl)))
    (Obs.val (fun a' w' E => ob_move (.tmp 3) rfl (E.old 3 (by kernel_rfl)))
    (Obs.val (fun a' w' E => ob_build 24 _ rfl (pm4 (E.new (v := (B s0)) 43 0 (by kernel_rfl) rfl) (E.new (v := (B s1)) 44 1 (by kernel_rfl) rfl) (E.new (v := (B s2)) 45 2 (by kernel_rfl) rfl) (E.new (v := (B s3)) 46 3 (by kernel_rfl) rfl)) (bd24_0i_1i_2i_3i _ _ _ _ w'))
    (Obs.stk (fun a' w' E hr => ob_storea 24 (.tmp 10) (.tmp 47) rfl (E.old 10 (by kernel_rfl)) (E.new (v := (.agg #[B s0, B s1, B s2, B s3])) 47 4 (by kernel_rfl) rfl) rfl hr (by kernel_rfl) (Nat.le_of_ble_eq_true rfl) (by kernel_rfl) rfl)
    Obs.nil)))))) ?_
  intro bs w6 aZ haZ F
  have eZ : aZ = ({ tmps := #[(B s0), (B s1), (B s2), (B s3), (B ov), undef, undef, undef, undef, undef, (PT w.heap.size), (B s_0), (B c_7), (B s_2), (B s_4), (B s_6), (.tuple #[(B s_0), (B c_1)]), (B s0), (.tuple #[(B s_0), (B c_1)]), (B s_0), (B c_1), (.tuple #[(B s_2), (B c_3)]), (B s1), (B c_1), (.tuple #[(B s_2), (B c_3)]), (B s_2), (B c_3), (.tuple #[(B s_4), (B c_5)]), (B s2), (B c_3), (.tuple #[(B s_4), (B c_5)]), (B s_4), (B c_5), (.tuple #[(B s_6), (B c_7)]), (B s3), (B c_5), (.tuple #[(B s_6), (B c_7)]), (B s_6), (B c_7), (B c_7), (B ov), (B u_8), (.bool true), (B s0), (B s1), (B s2), (B s3), (.agg #[B s0, B s1, B s2, B s3]), undef, undef, undef, undef, undef], defers := [] } : Act) := haZ.trans (by kernel_rfl)
  subst eZ
  clear haZ
  replace RR : Hid (RB w w6 [(w.heap.size, #[B s0, B s1, B s2, B s3])]) := ⟨F.bw, (RowsAt.cons (F.sk 5 rfl) RowsAt.nil)⟩
  clear F qT q0
  go_wp2
  exact bodyPost_ret (v := (.agg #[B s0, B s1, B s2, B s3])) (resA (p := 10) (ty := 24) rfl (g := w.heap.size) rfl (RR.out.at 0 rfl) Tryd.underlying24 rfl (by kernel_rfl)) rfl ⟨rfl, RR.out.b⟩
set_option maxRecDepth 100000 in
set_option maxHeartbeats 4000000 in
theorem settled_hi (s0 s1 s2 s3 ov : Nat) {s_0 c_1 s_2 c_3 s_4 c_5 s_6 c_7 u_8 : Nat}
    (c1 : XDoes 44 #[(B s0), (.int .u64 4294968273), (.int .u64 0)] (.tuple #[(B s_0), (B c_1)]))
    (c2 : XDoes 44 #[(B s1), (.int .u64 0), (B c_1)] (.tuple #[(B s_2), (B c_3)]))
    (c3 : XDoes 44 #[(B s2), (.int .u64 0), (B c_3)] (.tuple #[(B s_4), (B c_5)]))
    (c4 : XDoes 44 #[(B s3), (.int .u64 0), (B c_5)] (.tuple #[(B s_6), (B c_7)]))
    (e5 : bits .or .u64 (c_7 : Int) (ov : Int) = (u_8 : Int))
    (e6 : ((u_8 : Int) == (0 : Int)) = false)
    (w : World) : Calls Tryd.prog 92 #[(B s0), (B s1), (B s2), (B s3), (B ov)] w fun e w' => e = .returned (.agg #[B s_0, B s_2, B s_4, B s_6]) ∧ Below w.heap.size w w' := by
  go_enter Tryd.func92, Tryd.ntmps92
  go_upto_region 1 with fail
  refine name_world _ ?_
  intro wF hF0
  have RR : Hid (RB w wF [(w.heap.size, Zr)]) := by rw [hF0]; exact (rbN (rb0 w) (by simp))
  clear hF0
  obtain ⟨q0, qT⟩ := RR.out.r.lts
  refine wp_region_told (by kernel_rfl) (by kernel_rfl) (by kernel_rfl) [(w.heap.size, Zr)]
    [sV (B s0),
     sV (.tuple #[(B s_0), (B c_1)]),
     sV (.tuple #[(B s_0), (B c_1)]),
     sV (B s_0),
     sV (B c_1),
     sV (B s_0),
     sV (B c_1)]
    (by kernel_rfl) RR.out.b (RowsAt.cons (RR.out.at 0 rfl) RowsAt.nil) (StOk.of [] rfl StM.nil)
    (Obs.val (fun a' w' E => ob_move (.tmp 0) rfl (E.old 0 (by kernel_rfl)))
    (Obs.val (fun a' w' E => ob_xcall 44 _ _ rfl (am3 (E.new (v := (B s0)) 17 0 (by kernel_rfl) rfl) (evc a' (.int .u64 4294968273)) (evc a' (.int .u64 0))) (xc44 _ _) (c1.out w'))
    (Obs.val (fun a' w' E => ob_move (.tmp 18) rfl (E.new (v := (.tuple #[(B s_0), (B c_1)])) 18 1 (by kernel_rfl) rfl))
    (Obs.val (fun a' w' E => ob_extract (.tmp 16) 0 rfl (E.new (v := (.tuple #[(B s_0), (B c_1)])) 16 2 (by kernel_rfl) rfl) rfl)
    (Obs.val (fun a' w' E => ob_extract (.tmp 16) 1 rfl (E.new (v := (.tuple #[(B s_0), (B c_1)])) 16 2 (by kernel_rfl) rfl) rfl)
    (Obs.val (fun a' w' E => ob_assign (.tmp 19) rfl (E.new (v := (B s_0)) 19 3 (by kernel_rfl) rfl))
    (Obs.val (fun a' w' E => ob_assign (.tmp 20) rfl (E.new (v := (B c_1)) 20 4 (by kernel_rfl) rfl))
    Obs.nil))))))) ?_
  intro bs w1 aZ haZ F
  have eZ : aZ = ({ tmps := #[(B s0), (B s1), (B s2), (B s3), (B ov), undef, undef, undef, undef, undef, (PT w.heap.size), (B s_0), (B c_1), undef, undef, undef, (.tuple #[(B s_0), (B c_1)]), (B s0), (.tuple #[(B s_0), (B c_1)]), (B s_0), (B c_1), undef, undef, undef, undef, undef, undef, undef, undef, undef, undef, undef, undef, undef, undef, undef, undef, undef, undef, undef, undef, undef, undef, undef, undef, undef, undef, undef, undef, undef, undef, undef, undef], defers := [] } : Act) := haZ.trans (by kernel_rfl)
  subst eZ
  clear haZ
  replace RR : Hid (RB w w1 [(w.heap.size, Zr)]) := ⟨F.bw, (RowsAt.cons (F.row 0 rfl) RowsAt.nil)⟩
  clear F qT q0
  clear wF
  go_upto_region 2 with fail
  obtain ⟨q0, qT⟩ := RR.out.r.lts
  refine wp_region_told (by kernel_rfl) (by kernel_rfl) (by kernel_rfl) [(w.heap.size, Zr)]
    [sV (B s1),
     sV (B c_1),
     sV (.tuple #[(B s_2), (B c_3)]),
     sV (.tuple #[(B s_2), (B c_3)]),
     sV (B s_2),
     sV (B c_3),
     sV (B s_2),
     sV (B c_3)]
    (by kernel_rfl) RR.out.b (RowsAt.cons (RR.out.at 0 rfl) RowsAt.nil) (StOk.of [] rfl StM.nil)
    (Obs.val (fun a' w' E => ob_move (.tmp 1) rfl (E.old 1 (by kernel_rfl)))
    (Obs.val (fun a' w' E => ob_move (.tmp 12) rfl (E.olds 12 7 (by kernel_rfl) (by kernel_rfl)))
    (Obs.val (fun a' w' E => ob_xcall 44 _ _ rfl (am3 (E.new (v := (B s1)) 22 0 (by kernel_rfl) rfl) (evc a' (.int .u64 0)) (E.new (v := (B c_1)) 23 1 (by kernel_rfl) rfl)) (xc44 _ _) (c2.out w'))
    (Obs.val (fun a' w' E => ob_move (.tmp 24) rfl (E.new (v := (.tuple #[(B s_2), (B c_3)])) 24 2 (by kernel_rfl) rfl))
    (Obs.val (fun a' w' E => ob_extract (.tmp 21) 0 rfl (E.new (v := (.tuple #[(B s_2), (B c_3)])) 21 3 (by kernel_rfl) rfl) rfl)
    (Obs.val (fun a' w' E => ob_extract (.tmp 21) 1 rfl (E.new (v := (.tuple #[(B s_2), (B c_3)])) 21 3 (by kernel_rfl) rfl) rfl)
    (Obs.val (fun a' w' E => ob_assign (.tmp 25) rfl (E.new (v := (B s_2)) 25 4 (by kernel_rfl) rfl))
    (Obs.val (fun a' w' E => ob_assign (.tmp 26) rfl (E.new (v := (B c_3)) 26 5 (by kernel_rfl) rfl))
    Obs.nil)))))))) ?_
  intro bs w2 aZ haZ F
  have eZ : aZ = ({ tmps := #[(B s0), (B s1), (B s2), (B s3), (B ov), undef, undef, undef, undef, undef, (PT w.heap.size), (B s_0), (B c_3), (B s_2), undef, undef, (.tuple #[(B s_0), (B c_1)]), (B s0), (.tuple #[(B s_0), (B c_1)]), (B s_0), (B c_1), (.tuple #[(B s_2), (B c_3)]), (B s1), (B c_1), (.tuple #[(B s_2), (B c_3)]), (B s_2), (B c_3), undef, undef, undef, undef, undef, undef, undef, undef, undef, undef, undef, undef, undef, undef, undef, undef, undef, undef, undef, undef, undef, undef, undef, undef, undef, undef], defers := [] } : Act) := haZ.trans (by kernel_rfl)
  subst eZ
  clear haZ
  replace RR : Hid (RB w w2 [(w.heap.size, Zr)]) := ⟨F.bw, (RowsAt.cons (F.row 0 rfl) RowsAt.nil)⟩
  clear F qT q0
  go_upto_region 3 with fail
  obtain ⟨q0, qT⟩ := RR.out.r.lts
  refine wp_region_told (by kernel_rfl) (by kernel_rfl) (by kernel_rfl) [(w.heap.size, Zr)]
    [sV (B s2),
     sV (B c_3),
     sV (.tuple #[(B s_4), (B c_5)]),
     sV (.tuple #[(B s_4), (B c_5)]),
     sV (B s_4),
     sV (B c_5),
     sV (B s_4),
     sV (B c_5)]
    (by kernel_rfl) RR.out.b (RowsAt.cons (RR.out.at 0 rfl) RowsAt.nil) (StOk.of [] rfl StM.nil)
    (Obs.val (fun a' w' E => ob_move (.tmp 2) rfl (E.old 2 (by kernel_rfl)))
    (Obs.val (fun a' w' E => ob_move (.tmp 12) rfl (E.olds 12 7 (by kernel_rfl) (by kernel_rfl)))
    (Obs.val (fun a' w' E => ob_xcall 44 _ _ rfl (am3 (E.new (v := (B s2)) 28 0 (by kernel_rfl) rfl) (evc a' (.int .u64 0)) (E.new (v := (B c_3)) 29 1 (by kernel_rfl) rfl)) (xc44 _ _) (c3.out w'))
    (Obs.val (fun a' w' E => ob_move (.tmp 30) rfl (E.new (v := (.tuple #[(B s_4), (B c_5)])) 30 2 (by kernel_rfl) rfl))
    (Obs.val (fun a' w' E => ob_extract (.tmp 27) 0 rfl (E.new (v := (.tuple #[(B s_4), (B c_5)])) 27 3 (by kernel_rfl) rfl) rfl)
    (Obs.val (fun a' w' E => ob_extract (.tmp 27) 1 rfl (E.new (v := (.tuple #[(B s_4), (B c_5)])) 27 3 (by kernel_rfl) rfl) rfl)
    (Obs.val (fun a' w' E => ob_assign (.tmp 31) rfl (E.new (v := (B s_4)) 31 4 (by kernel_rfl) rfl))
    (Obs.val (fun a' w' E => ob_assign (.tmp 32) rfl (E.new (v := (B c_5)) 32 5 (by kernel_rfl) rfl))
    Obs.nil)))))))) ?_
  intro bs w3 aZ haZ F
  have eZ : aZ = ({ tmps := #[(B s0), (B s1), (B s2), (B s3), (B ov), undef, undef, undef, undef, undef, (PT w.heap.size), (B s_0), (B c_5), (B s_2), (B s_4), undef, (.tuple #[(B s_0), (B c_1)]), (B s0), (.tuple #[(B s_0), (B c_1)]), (B s_0), (B c_1), (.tuple #[(B s_2), (B c_3)]), (B s1), (B c_1), (.tuple #[(B s_2), (B c_3)]), (B s_2), (B c_3), (.tuple #[(B s_4), (B c_5)]), (B s2), (B c_3), (.tuple #[(B s_4), (B c_5)]), (B s_4), (B c_5), undef, undef, undef, undef, undef, undef, undef, undef, undef, undef, undef, undef, undef, undef, undef, undef, undef, undef, undef, undef], defers := [] } : Act) := haZ.trans (by kernel_rfl)
  subst eZ
  clear haZ
  replace RR : Hid (RB w w3 [(w.heap.size, Zr)]) := ⟨F.bw, (RowsAt.cons (F.row 0 rfl) RowsAt.nil)⟩
  clear F qT q0
  go_upto_region 4 with fail
  obtain ⟨q0, qT⟩ := RR.out.r.lts
  refine wp_region_told (by kernel_rfl) (by kernel_rfl) (by kernel_rfl) [(w.heap.size, Zr)]
    [sV (B s3),
     sV (B c_5),
     sV (.tuple #[(B s_6), (B c_7)]),
     sV (.tuple #[(B s_6), (B c_7)]),
     sV (B s_6),
     sV (B c_7),
     sV (B s_6),
     sV (B c_7)]
    (by kernel_rfl) RR.out.b (RowsAt.cons (RR.out.at 0 rfl) RowsAt.nil) (StOk.of [] rfl StM.nil)
    (Obs.val (fun a' w' E => ob_move (.tmp 3) rfl (E.old 3 (by kernel_rfl)))
    (Obs.val (fun a' w' E => ob_move (.tmp 12) rfl (E.olds 12 7 (by kernel_rfl) (by kernel_rfl)))
    (Obs.val (fun a' w' E => ob_xcall 44 _ _ rfl (am3 (E.new (v := (B s3)) 34 0 (by kernel_rfl) rfl) (evc a' (.int .u64 0)) (E.new (v := (B c_5)) 35 1 (by kernel_rfl) rfl)) (xc44 _ _) (c4.out w'))
    (Obs.val (fun a' w' E => ob_move (.tmp 36) rfl (E.new (v := (.tuple #[(B s_6), (B c_7)])) 36 2 (by kernel_rfl) rfl))
    (Obs.val (fun a' w' E => ob_extract (.tmp 33) 0 rfl (E.new (v := (.tuple #[(B s_6), (B c_7)])) 33 3 (by kernel_rfl) rfl) rfl)
    (Obs.val (fun a' w' E => ob_extract (.tmp 33) 1 rfl (E.new (v := (.tuple #[(B s_6), (B c_7)])) 33 3 (by kernel_rfl) rfl) rfl)
    (Obs.val (fun a' w' E => ob_assign (.tmp 37) rfl (E.new (v := (B s_6)) 37 4 (by kernel_rfl) rfl))
    (Obs.val (fun a' w' E => ob_assign (.tmp 38) rfl (E.new (v := (B c_7)) 38 5 (by kernel_rfl) rfl))
    Obs.nil)))))))) ?_
  intro bs w4 aZ haZ F
  have eZ : aZ = ({ tmps := #[(B s0), (B s1), (B s2), (B s3), (B ov), undef, undef, undef, undef, undef, (PT w.heap.size), (B s_0), (B c_7), (B s_2), (B s_4), (B s_6), (.tuple #[(B s_0), (B c_1)]), (B s0), (.tuple #[(B s_0), (B c_1)]), (B s_0), (B c_1), (.tuple #[(B s_2), (B c_3)]), (B s1), (B c_1), (.tuple #[(B s_2), (B c_3)]), (B s_2), (B c_3), (.tuple #[(B s_4), (B c_5)]), (B s2), (B c_3), (.tuple #[(B s_4), (B c_5)]), (B s_4), (B c_5), (.tuple #[(B s_6), (B c_7)]), (B s3), (B c_5), (.tuple #[(B s_6), (B c_7)]), (B s_6), (B c_7), undef, undef, undef, undef, undef, undef, undef, undef, undef, undef, undef, undef, undef, undef], defers := [] } : Act) := haZ.trans (by kernel_rfl)
  subst eZ
  clear haZ
  replace RR : Hid (RB w w4 [(w.heap.size, Zr)]) := ⟨F.bw, (RowsAt.cons (F.row 0 rfl) RowsAt.nil)⟩
  clear F qT q0
  go_upto_region 5 with fail
  obtain ⟨q0, qT⟩ := RR.out.r.lts
  refine wp_region_told (by kernel_rfl) (by kernel_rfl) (by kernel_rfl) [(w.heap.size, Zr)]
    [sV (B c_7),
     sV (B ov),
     sV (B u_8),
     sV (.bool false)]
    (by kernel_rfl) RR.out.b (RowsAt.cons (RR.out.at 0 rfl) RowsAt.nil) (StOk.of [] rfl StM.nil)
    (Obs.val (fun a' w' E => ob_move (.tmp 12) rfl (E.old 12 (by kernel_rfl)))
    (Obs.val (fun a' w' E => ob_move (.tmp 4) rfl (E.old 4 (by kernel_rfl)))
    (Obs.val (fun a' w' E => ob_binOp .or 22 (.tmp 39) (.tmp 40) 22 rfl (E.new (v := (B c_7)) 39 0 (by kernel_rfl) rfl) (E.new (v := (B ov)) 40 1 (by kernel_rfl) rfl) (by simp [go_sem, e5]))
    (Obs.val (fun a' w' E => ob_binOp .eql 22 (.tmp 41) (.const (.int .u64 0)) 22 rfl (E.new (v := (B u_8)) 41 2 (by kernel_rfl) rfl) (evc a' (.int .u64 0)) (by simp [go_sem, e6]))
    Obs.nil)))) ?_
  intro bs w5 aZ haZ F
  have eZ : aZ = ({ tmps := #[(B s0), (B s1), (B s2), (B s3), (B ov), undef, undef, undef, undef, undef, (PT w.heap.size), (B s_0), (B c_7), (B s_2), (B s_4), (B s_6), (.tuple #[(B s_0), (B c_1)]), (B s0), (.tuple #[(B s_0), (B c_1)]), (B s_0), (B c_1), (.tuple #[(B s_2), (B c_3)]), (B s1), (B c_1), (.tuple #[(B s_2), (B c_3)]), (B s_2), (B c_3), (.tuple #[(B s_4), (B c_5)]), (B s2), (B c_3), (.tuple #[(B s_4), (B c_5)]), (B s_4), (B c_5), (.tuple #[(B s_6), (B c_7)]), (B s3), (B c_5), (.tuple #[(B s_6), (B c_7)]), (B s_6), (B c_7), (B c_7), (B ov), (B u_8), (.bool false), undef, undef, undef, undef, undef, undef, undef, undef, undef, undef], defers := [] } : Act) := haZ.trans (by kernel_rfl)
  subst eZ
  clear haZ
  replace RR : Hid (RB w w5 [(w.heap.size, Zr)]) := ⟨F.bw, (RowsAt.cons (F.row 0 rfl) RowsAt.nil)⟩
  clear F qT q0
  go_upto_region 7 with fail
  obtain ⟨q0, qT⟩ := RR.out.r.lts
  refine wp_region_told (by kernel_rfl) (by kernel_rfl) (by kernel_rfl) []
    [sV (B s_0),
     sV (B s_2),
     sV (B s_4),
     sV (B s_6),
     sV (.agg #[B s_0, B s_2, B s_4, B s_6]),
     sK (w.heap.size) Zr #[B s_0, B s_2, B s_4, B s_6]]
    (by kernel_rfl) RR.out.b RowsAt.nil (StOk.of [(w.heap.size, Zr)] rfl (StM.cons (RR.out.at 0 rfl) (by omega) Apart.nil Apart.nil StM.nil))
    (Obs.val (fun a' w' E => ob_move (.tmp 11) rfl (E.old 11 (by kernel_rfl)))
    (Obs.val (fun a' w' E => ob_move (.tmp 13) rfl (E.old 13 (by kernel_rfl)))
    (Obs.val (fun a' w' E => ob_move (.tmp 14) rfl (E.old 14 (by kernel_rfl)))
    (Obs.val (fun a' w' E => ob_move (.tmp 15) rfl (E.old 15 (by kernel_rfl)))
    (Obs.val (fun a' w' E => ob_build 24 _ rfl (pm4 (E.new (v := (B s_0)) 48 0 (by kernel_rfl) rfl) (E.new (v := (B s_2)) 49 1 (by kernel_rfl) rfl) (E.new (v := (B s_4)) 50 2 (by kernel_rfl) rfl) (E.new (v := (B s_6)) 51 3 (by kernel_rfl) rfl)) (bd24_0i_1i_2i_3i _ _ _ _ w'))
    (Obs.stk (fun a' w' E hr => ob_storea 24 (.tmp 10) (.tmp 52) rfl (E.old 10 (by kernel_rfl)) (E.new (v := (.agg #[B s_0, B s_2, B s_4, B s_6])) 52 4 (by kernel_rfl) rfl) rfl hr (by kernel_rfl) (Nat.le_of_ble_eq_true rfl) (by kernel_rfl) rfl)
    Obs.nil)))))) ?_
  intro bs w6 aZ haZ F
  have eZ : aZ = ({ tmps := #[(B s0), (B s1), (B s2), (B s3), (B ov), undef, undef, undef, undef, undef, (PT w.heap.size), (B s_0), (B c_7), (B s_2), (B s_4), (B s_6), (.tuple #[(B s_0), (B c_1)]), (B s0), (.tuple #[(B s_0), (B c_1)]), (B s_0), (B c_1), (.tuple #[(B s_2), (B c_3)]), (B s1), (B c_1), (.tuple #[(B s_2), (B c_3)]), (B s_2), (B c_3), (.tuple #[(B s_4), (B c_5)]), (B s2), (B c_3), (.tuple #[(B s_4), (B c_5)]), (B s_4), (B c_5), (.tuple #[(B s_6), (B c_7)]), (B s3), (B c_5), (.tuple #[(B s_6), (B c_7)]), (B s_6), (B c_7), (B c_7), (B ov), (B u_8), (.bool false), undef, undef, undef, undef, undef, (B s_0), (B s_2), (B s_4), (B s_6), (.agg #[B s_0, B s_2, B s_4, B s_6])], defers := [] } : Act) := haZ.trans (by kernel_rfl)
  subst eZ
  clear haZ
  replace RR : Hid (RB w w6 [(w.heap.size, #[B s_0, B s_2, B s_4, B s_6])]) := ⟨F.bw, (RowsAt.cons (F.sk 5 rfl) RowsAt.nil)⟩
  clear F qT q0
  go_wp2
  exact bodyPost_ret (v := (.agg #[B s_0, B s_2, B s_4, B s_6])) (resA (p := 10) (ty := 24) rfl (g := w.heap.size) rfl (RR.out.at 0 rfl) Tryd.underlying24 rfl (by kernel_rfl)) rfl ⟨rfl, RR.out.b⟩
set_option maxRecDepth 100000 in
set_option maxHeartbeats 4000000 in
theorem plus_raw (a0 a1 a2 a3 b0 b1 b2 b3 : Nat) {s_0 c_1 s_2 c_3 s_4 c_5 s_6 c_7 q_8 q_9 q_10 q_11 : Nat}
    (c1 : XDoes 44 #[(B a0), (B b0), (.int .u64 0)] (.tuple #[(B s_0), (B c_1)]))
    (c2 : XDoes 44 #[(B a1), (B b1), (B c_1)] (.tuple #[(B s_2), (B c_3)]))
    (c3 : XDoes 44 #[(B a2), (B b2), (B c_3)] (.tuple #[(B s_4), (B c_5)]))
    (c4 : XDoes 44 #[(B a3), (B b3), (B c_5)] (.tuple #[(B s_6), (B c_7)]))
    (c5 : Does 92 #[(B s_0), (B s_2), (B s_4), (B s_6), (B c_7)] (.agg #[B q_8, B q_9, B q_10, B q_11]))
    (w : World) : Calls Tryd.prog 89 #[(.agg #[B a0, B a1, B a2, B a3]), (.agg #[B b0, B b1, B b2, B b3])] w fun e w' => e = .returned (.agg #[B q_8, B q_9, B q_10, B q_11]) ∧ Below w.heap.size w w' := by
  go_enter Tryd.func89, Tryd.ntmps89
  go_upto_region 1 with fail
  refine name_world _ ?_
  intro wF hF0
  have RR : Hid (RB w wF [(w.heap.size + 1 + 1, Zr), (w.heap.size + 1, #[B b0, B b1, B b2, B b3]), (w.heap.size, #[B a0, B a1, B a2, B a3])]) := by rw [hF0]; exact (rbN (rbN (rbN (rb0 w) (by simp)) (by simp)) (by simp))
  clear hF0
  obtain ⟨q2, q1, q0, qT⟩ := RR.out.r.lts
  refine wp_region_told (by kernel_rfl) (by kernel_rfl) (by kernel_rfl) [(w.heap.size, #[B a0, B a1, B a2, B a3]), (w.heap.size + 1, #[B b0, B b1, B b2, B b3]), (w.heap.size + 1 + 1, Zr)]
    [sV (PT w.heap.size),
     sV (B a0),
     sV (PT (w.heap.size + 1)),
     sV (B b0),
     sV (.tuple #[(B s_0), (B c_1)]),
     sV (.tuple #[(B s_0), (B c_1)]),
     sV (B s_0),
     sV (B c_1),
     sV (B s_0),
     sV (B c_1)]
    (by kernel_rfl) RR.out.b (RowsAt.cons (RR.out.at 2 rfl) (RowsAt.cons (RR.out.at 1 rfl) (RowsAt.cons (RR.out.at 0 rfl) RowsAt.nil))) (StOk.of [] rfl StM.nil)
    (Obs.val (fun a' w' E => ob_indexAddr 24 (.tmp 2) (.const (.int .i64 0)) rfl (E.old 2 (by kernel_rfl)) (evc a' (.int .i64 0)) (ix24_0 _ _ w'))
    (Obs.val (fun a' w' E => ob_load1 22 (.tmp 11) rfl (E.new (v := (PT w.heap.size)) 11 0 (by kernel_rfl) rfl) (E.row (g := w.heap.size) (c := #[B a0, B a1, B a2, B a3]) 0 rfl) Tryd.underlying22 rfl rfl)
    (Obs.val (fun a' w' E => ob_indexAddr 24 (.tmp 3) (.const (.int .i64 0)) rfl (E.old 3 (by kernel_rfl)) (evc a' (.int .i64 0)) (ix24_0 _ _ w'))
    (Obs.val (fun a' w' E => ob_load1 22 (.tmp 13) rfl (E.new (v := (PT (w.heap.size + 1))) 13 2 (by kernel_rfl) rfl) (E.row (g := w.heap.size + 1) (c := #[B b0, B b1, B b2, B b3]) 1 rfl) Tryd.underlying22 rfl rfl)
    (Obs.val (fun a' w' E => ob_xcall 44 _ _ rfl (am3 (E.new (v := (B a0)) 12 1 (by kernel_rfl) rfl) (E.new (v := (B b0)) 14 3 (by kernel_rfl) rfl) (evc a' (.int .u64 0))) (xc44 _ _) (c1.out w'))
    (Obs.val (fun a' w' E => ob_move (.tmp 15) rfl (E.new (v := (.tuple #[(B s_0), (B c_1)])) 15 4 (by kernel_rfl) rfl))
    (Obs.val (fun a' w' E => ob_extract (.tmp 10) 0 rfl (E.new (v := (.tuple #[(B s_0), (B c_1)])) 10 5 (by kernel_rfl) rfl) rfl)
    (Obs.val (fun a' w' E => ob_extract (.tmp 10) 1 rfl (E.new (v := (.tuple #[(B s_0), (B c_1)])) 10 5 (by kernel_rfl) rfl) rfl)
    (Obs.val (fun a' w' E => ob_assign (.tmp 16) rfl (E.new (v := (B s_0)) 16 6 (by kernel_rfl) rfl))
    (Obs.val (fun a' w' E => ob_assign (.tmp 17) rfl (E.new (v := (B c_1)) 17 7 (by kernel_rfl) rfl))
    Obs.nil)))))))))) ?_
  intro bs w1 aZ haZ F
  have eZ : aZ = ({ tmps := #[(.agg #[B a0, B a1, B a2, B a3]), (.agg #[B b0, B b1, B b2, B b3]), (PT w.heap.size), (PT (w.heap.size + 1)), (PT (w.heap.size + 1 + 1)), (B s_0), (B c_1), undef, undef, undef, (.tuple #[(B s_0), (B c_1)]), (PT w.heap.size), (B a0), (PT (w.heap.size + 1)), (B b0), (.tuple #[(B s_0), (B c_1)]), (B s_0), (B c_1), undef, undef, undef, undef, undef, undef, undef, undef, undef, undef, undef, undef, undef, undef, undef, undef, undef, undef, undef, undef, undef, undef, undef, undef, undef, undef, undef, undef, undef, undef, undef, undef, undef], defers := [] } : Act) := haZ.trans (by kernel_rfl)
  subst eZ
  clear haZ
  replace RR : Hid (RB w w1 [(w.heap.size + 1 + 1, Zr), (w.heap.size + 1, #[B b0, B b1, B b2, B b3]), (w.heap.size, #[B a0, B a1, B a2, B a3])]) := ⟨F.bw, (RowsAt.cons (F.row 2 rfl) (RowsAt.cons (F.row 1 rfl) (RowsAt.cons (F.row 0 rfl) RowsAt.nil)))⟩
  clear F qT q0 q1 q2
  clear wF
  go_upto_region 2 with fail
  obtain ⟨q2, q1, q0, qT⟩ := RR.out.r.lts
  refine wp_region_told (by kernel_rfl) (by kernel_rfl) (by kernel_rfl) [(w.heap.size, #[B a0, B a1, B a2, B a3]), (w.heap.size + 1, #[B b0, B b1, B b2, B b3]), (w.heap.size + 1 + 1, Zr)]
    [sV (PO w.heap.size 1),
     sV (B a1),
     sV (PO (w.heap.size + 1) 1),
     sV (B b1),
     sV (B c_1),
     sV (.tuple #[(B s_2), (B c_3)]),
     sV (.tuple #[(B s_2), (B c_3)]),
     sV (B s_2),
     sV (B c_3),
     sV (B s_2),
     sV (B c_3)]
    (by kernel_rfl) RR.out.b (RowsAt.cons (RR.out.at 2 rfl) (RowsAt.cons (RR.out.at 1 rfl) (RowsAt.cons (RR.out.at 0 rfl) RowsAt.nil))) (StOk.of [] rfl StM.nil)
    (Obs.val (fun a' w' E => ob_indexAddr 24 (.tmp 2) (.const (.int .i64 1)) rfl (E.old 2 (by kernel_rfl)) (evc a' (.int .i64 1)) (ix24_1 _ _ w'))
    (Obs.val (fun a' w' E => ob_load1 22 (.tmp 19) rfl (E.new (v := (PO w.heap.size 1)) 19 0 (by kernel_rfl) rfl) (E.row (g := w.heap.size) (c := #[B a0, B a1, B a2, B a3]) 0 rfl) Tryd.underlying22 rfl rfl)
    (Obs.val (fun a' w' E => ob_indexAddr 24 (.tmp 3) (.const (.int .i64 1)) rfl (E.old 3 (by kernel_rfl)) (evc a' (.int .i64 1)) (ix24_1 _ _ w'))
    (Obs.val (fun a' w' E => ob_load1 22 (.tmp 21) rfl (E.new (v := (PO (w.heap.size + 1) 1)) 21 2 (by kernel_rfl) rfl) (E.row (g := w.heap.size + 1) (c := #[B b0, B b1, B b2, B b3]) 1 rfl) Tryd.underlying22 rfl rfl)
    (Obs.val (fun a' w' E => ob_move (.tmp 6) rfl (E.olds 6 10 (by kernel_rfl) (by kernel_rfl)))
    (Obs.val (fun a' w' E => ob_xcall 44 _ _ rfl (am3 (E.new (v := (B a1)) 20 1 (by kernel_rfl) rfl) (E.new (v := (B b1)) 22 3 (by kernel_rfl) rfl) (E.new (v := (B c_1)) 23 4 (by kernel_rfl) rfl)) (xc44 _ _) (c2.out w'))
    (Obs.val (fun a' w' E => ob_move (.tmp 24) rfl (E.new (v := (.tuple #[(B s_2), (B c_3)])) 24 5 (by kernel_rfl) rfl))
    (Obs.val (fun a' w' E => ob_extract (.tmp 18) 0 rfl (E.new (v := (.tuple #[(B s_2), (B c_3)])) 18 6 (by kernel_rfl) rfl) rfl)
    (Obs.val (fun a' w' E => ob_extract (.tmp 18) 1 rfl (E.new (v := (.tuple #[(B s_2), (B c_3)])) 18 6 (by kernel_rfl) rfl) rfl)
    (Obs.val (fun a' w' E => ob_assign (.tmp 25) rfl (E.new (v := (B s_2)) 25 7 (by kernel_rfl) rfl))
    (Obs.val (fun a' w' E => ob_assign (.tmp 26) rfl (E.new (v := (B c_3)) 26 8 (by kernel_rfl) rfl))
    Obs.nil))))))))))) ?_
  intro bs w2 aZ haZ F
  have eZ : aZ = ({ tmps := #[(.agg #[B a0, B a1, B a2, B a3]), (.agg #[B b0, B b1, B b2, B b3]), (PT w.heap.size), (PT (w.heap.size + 1)), (PT (w.heap.size + 1 + 1)), (B s_0), (B c_3), (B s_2), undef, undef, (.tuple #[(B s_0), (B c_1)]), (PT w.heap.size), (B a0), (PT (w.heap.size + 1)), (B b0), (.tuple #[(B s_0), (B c_1)]), (B s_0), (B c_1), (.tuple #[(B s_2), (B c_3)]), (PO w.heap.size 1), (B a1), (PO (w.heap.size + 1) 1), (B b1), (B c_1), (.tuple #[(B s_2), (B c_3)]), (B s_2), (B c_3), undef, undef, undef, undef, undef, undef, undef, undef, undef, undef, undef, undef, undef, undef, undef, undef, undef, undef, undef, undef, undef, undef, undef, undef], defers := [] } : Act) := haZ.trans (by kernel_rfl)
  subst eZ
  clear haZ
  replace RR : Hid (RB w w2 [(w.heap.size + 1 + 1, Zr), (w.heap.size + 1, #[B b0, B b1, B b2, B b3]), (w.heap.size, #[B a0, B a1, B a2, B a3])]) := ⟨F.bw, (RowsAt.cons (F.row 2 rfl) (RowsAt.cons (F.row 1 rfl) (RowsAt.cons (F.row 0 rfl) RowsAt.nil)))⟩
  clear F qT q0 q1 q2
  go_upto_region 3 with fail
  obtain ⟨q2, q1, q0, qT⟩ := RR.out.r.lts
  refine wp_region_told (by kernel_rfl) (by kernel_rfl) (by kernel_rfl) [(w.heap.size, #[B a0, B a1, B a2, B a3]), (w.heap.size + 1, #[B b0, B b1, B b2, B b3]), (w.heap.size + 1 + 1, Zr)]
    [sV (PO w.heap.size 2),
     sV (B a2),
     sV (PO (w.heap.size + 1) 2),
     sV (B b2),
     sV (B c_3),
     sV (.tuple #[(B s_4), (B c_5)]),
     sV (.tuple #[(B s_4), (B c_5)]),
     sV (B s_4),
     sV (B c_5),
     sV (B s_4),
     sV (B c_5)]
    (by kernel_rfl) RR.out.b (RowsAt.cons (RR.out.at 2 rfl) (RowsAt.cons (RR.out.at 1 rfl) (RowsAt.cons (RR.out.at 0 rfl) RowsAt.nil))) (StOk.of [] rfl StM.nil)
    (Obs.val (fun a' w' E => ob_indexAddr 24 (.tmp 2) (.const (.int .i64 2)) rfl (E.old 2 (by kernel_rfl)) (evc a' (.int .i64 2)) (ix24_2 _ _ w'))
    (Obs.val (fun a' w' E => ob_load1 22 (.tmp 28) rfl (E.new (v := (PO w.heap.size 2)) 28 0 (by kernel_rfl) rfl) (E.row (g := w.heap.size) (c := #[B a0, B a1, B a2, B a3]) 0 rfl) Tryd.underlying22 rfl rfl)
    (Obs.val (fun a' w' E => ob_indexAddr 24 (.tmp 3) (.const (.int .i64 2)) rfl (E.old 3 (by kernel_rfl)) (evc a' (.int .i64 2)) (ix24_2 _ _ w'))
    (Obs.val (fun a' w' E => ob_load1 22 (.tmp 30) rfl (E.new (v := (PO (w.heap.size + 1) 2)) 30 2 (by kernel_rfl) rfl) (E.row (g := w.heap.size + 1) (c := #[B b0, B b1, B b2, B b3]) 1 rfl) Tryd.underlying22 rfl rfl)
    (Obs.val (fun a' w' E => ob_move (.tmp 6) rfl (E.olds 6 10 (by kernel_rfl) (by kernel_rfl)))
    (Obs.val (fun a' w' E => ob_xcall 44 _ _ rfl (am3 (E.new (v := (B a2)) 29 1 (by kernel_rfl) rfl) (E.new (v := (B b2)) 31 3 (by kernel_rfl) rfl) (E.new (v := (B c_3)) 32 4 (by kernel_rfl) rfl)) (xc44 _ _) (c3.out w'))
    (Obs.val (fun a' w' E => ob_move (.tmp 33) rfl (E.new (v := (.tuple #[(B s_4), (B c_5)])) 33 5 (by kernel_rfl) rfl))
    (Obs.val (fun a' w' E => ob_extract (.tmp 27) 0 rfl (E.new (v := (.tuple #[(B s_4), (B c_5)])) 27 6 (by kernel_rfl) rfl) rfl)
    (Obs.val (fun a' w' E => ob_extract (.tmp 27) 1 rfl (E.new (v := (.tuple #[(B s_4), (B c_5)])) 27 6 (by kernel_rfl) rfl) rfl)
    (Obs.val (fun a' w' E => ob_assign (.tmp 34) rfl (E.new (v := (B s_4)) 34 7 (by kernel_rfl) rfl))
    (Obs.val (fun a' w' E => ob_assign (.tmp 35) rfl (E.new (v := (B c_5)) 35 8 (by kernel_rfl) rfl))
    Obs.nil))))))))))) ?_
  intro bs w3 aZ haZ F
  have eZ : aZ = ({ tmps := #[(.agg #[B a0, B a1, B a2, B a3]), (.agg #[B b0, B b1, B b2, B b3]), (PT w.heap.size), (PT (w.heap.size + 1)), (PT (w.heap.size + 1 + 1)), (B s_0), (B c_5), (B s_2), (B s_4), undef, (.tuple #[(B s_0), (B c_1)]), (PT w.heap.size), (B a0), (PT (w.heap.size + 1)), (B b0), (.tuple #[(B s_0), (B c_1)]), (B s_0), (B c_1), (.tuple #[(B s_2), (B c_3)]), (PO w.heap.size 1), (B a1), (PO (w.heap.size + 1) 1), (B b1), (B c_1), (.tuple #[(B s_2), (B c_3)]), (B s_2), (B c_3), (.tuple #[(B s_4), (B c_5)]), (PO w.heap.size 2), (B a2), (PO (w.heap.size + 1) 2), (B b2), (B c_3), (.tuple #[(B s_4), (B c_5)]), (B s_4), (B c_5), undef, undef, undef, undef, undef, undef, undef, undef, undef, undef, undef, undef, undef, undef, undef], defers := [] } : Act) := haZ.trans (by kernel_rfl)
  subst eZ
  clear haZ
  replace RR : Hid (RB w w3 [(w.heap.size + 1 + 1, Zr), (w.heap.size + 1, #[B b0, B b1, B b2, B b3]), (w.heap.size, #[B a0, B a1, B a2, B a3])]) := ⟨F.bw, (RowsAt.cons (F.row 2 rfl) (RowsAt.cons (F.row 1 rfl) (RowsAt.cons (F.row 0 rfl) RowsAt.nil)))⟩
  clear F qT q0 q1 q2
  go_upto_region 4 with fail
  obtain ⟨q2, q1, q0, qT⟩ := RR.out.r.lts
  refine wp_region_told (by kernel_rfl) (by kernel_rfl) (by kernel_rfl) [(w.heap.size, #[B a0, B a1, B a2, B a3]), (w.heap.size + 1, #[B b0, B b1, B b2, B b3]), (w.heap.size + 1 + 1, Zr)]
    [sV (PO w.heap.size 3),
     sV (B a3),
     sV (PO (w.heap.size + 1) 3),
     sV (B b3),
     sV (B c_5),
     sV (.tuple #[(B s_6), (B c_7)]),
     sV (.tuple #[(B s_6), (B c_7)]),
     sV (B s_6),
     sV (B c_7),
     sV (B s_6),
     sV (B c_7)]
    (by kernel_rfl) RR.out.b (RowsAt.cons (RR.out.at 2 rfl) (RowsAt.cons (RR.out.at 1 rfl) (RowsAt.cons (RR.out.at 0 rfl) RowsAt.nil))) (StOk.of [] rfl StM.nil)
    (Obs.val (fun a' w' E => ob_indexAddr 24 (.tmp 2) (.const (.int .i64 3)) rfl (E.old 2 (by kernel_rfl)) (evc a' (.int .i64 3)) (ix24_3 _ _ w'))
    (Obs.val (fun a' w' E => ob_load1 22 (.tmp 37) rfl (E.new (v := (PO w.heap.size 3)) 37 0 (by kernel_rfl) rfl) (E.row (g := w.heap.size) (c := #[B a0, B a1, B a2, B a3]) 0 rfl) Tryd.underlying22 rfl rfl)
    (Obs.val (fun a' w' E => ob_indexAddr 24 (.tmp 3) (.const (.int .i64 3)) rfl (E.old 3 (by kernel_rfl)) (evc a' (.int .i64 3)) (ix24_3 _ _ w'))
    (Obs.val (fun a' w' E => ob_load1 22 (.tmp 39) rfl (E.new (v := (PO (w.heap.size + 1) 3)) 39 2 (by kernel_rfl) rfl) (E.row (g := w.heap.size + 1) (c := #[B b0, B b1, B b2, B b3]) 1 rfl) Tryd.underlying22 rfl rfl)
    (Obs.val (fun a' w' E => ob_move (.tmp 6) rfl (E.olds 6 10 (by kernel_rfl) (by kernel_rfl)))
    (Obs.val (fun a' w' E => ob_xcall 44 _ _ rfl (am3 (E.new (v := (B a3)) 38 1 (by kernel_rfl) rfl) (E.new (v := (B b3)) 40 3 (by kernel_rfl) rfl) (E.new (v := (B c_5)) 41 4 (by kernel_rfl) rfl)) (xc44 _ _) (c4.out w'))
    (Obs.val (fun a' w' E => ob_move (.tmp 42) rfl (E.new (v := (.tuple #[(B s_6), (B c_7)])) 42 5 (by kernel_rfl) rfl))
    (Obs.val (fun a' w' E => ob_extract (.tmp 36) 0 rfl (E.new (v := (.tuple #[(B s_6), (B c_7)])) 36 6 (by kernel_rfl) rfl) rfl)
    (Obs.val (fun a' w' E => ob_extract (.tmp 36) 1 rfl (E.new (v := (.tuple #[(B s_6), (B c_7)])) 36 6 (by kernel_rfl) rfl) rfl)
    (Obs.val (fun a' w' E => ob_assign (.tmp 43) rfl (E.new (v := (B s_6)) 43 7 (by kernel_rfl) rfl))
    (Obs.val (fun a' w' E => ob_assign (.tmp 44) rfl (E.new (v := (B c_7)) 44 8 (by kernel_rfl) rfl))
    Obs.nil))))))))))) ?_
  intro bs w4 aZ haZ F
  have eZ : aZ = ({ tmps := #[(.agg #[B a0, B a1, B a2, B a3]), (.agg #[B b0, B b1, B b2, B b3]), (PT w.heap.size), (PT (w.heap.size + 1)), (PT (w.heap.size + 1 + 1)), (B s_0), (B c_7), (B s_2), (B s_4), (B s_6), (.tuple #[(B s_0), (B c_1)]), (PT w.heap.size), (B a0), (PT (w.heap.size + 1)), (B b0), (.tuple #[(B s_0), (B c_1)]), (B s_0), (B c_1), (.tuple #[(B s_2), (B c_3)]), (PO w.heap.size 1), (B a1), (PO (w.heap.size + 1) 1), (B b1), (B c_1), (.tuple #[(B s_2), (B c_3)]), (B s_2), (B c_3), (.tuple #[(B s_4), (B c_5)]), (PO w.heap.size 2), (B a2), (PO (w.heap.size + 1) 2), (B b2), (B c_3), (.tuple #[(B s_4), (B c_5)]), (B s_4), (B c_5), (.tuple #[(B s_6), (B c_7)]), (PO w.heap.size 3), (B a3), (PO (w.heap.size + 1) 3), (B b3), (B c_5), (.tuple #[(B s_6), (B c_7)]), (B s_6), (B c_7), undef, undef, undef, undef, undef, undef], defers := [] } : Act) := haZ.trans (by kernel_rfl)
  subst eZ
  clear haZ
  replace RR : Hid (RB w w4 [(w.heap.size + 1 + 1, Zr), (w.heap.size + 1, #[B b0, B b1, B b2, B b3]), (w.heap.size, #[B a0, B a1, B a2, B a3])]) := ⟨F.bw, (RowsAt.cons (F.row 2 rfl) (RowsAt.cons (F.row 1 rfl) (RowsAt.cons (F.row 0 rfl) RowsAt.nil)))⟩
  clear F qT q0 q1 q2
  go_upto_region 5 with fail
  obtain ⟨q2, q1, q0, qT⟩ := RR.out.r.lts
  refine wp_region_told (by kernel_rfl) (by kernel_rfl) (by kernel_rfl) [(w.heap.size, #[B a0, B a1, B a2, B a3]), (w.heap.size + 1, #[B b0, B b1, B b2, B b3])]
    [sV (B s_0),
     sV (B s_2),
     sV (B s_4),
     sV (B s_6),
     sV (B c_7),
     sV (.agg #[B q_8, B q_9, B q_10, B q_11]),
     sK (w.heap.size + 1 + 1) Zr #[B q_8, B q_9, B q_10, B q_11]]
    (by kernel_rfl) RR.out.b (RowsAt.cons (RR.out.at 2 rfl) (RowsAt.cons (RR.out.at 1 rfl) RowsAt.nil)) (StOk.of [(w.heap.size + 1 + 1, Zr)] rfl (StM.cons (RR.out.at 0 rfl) (by omega) (Apart.cons (by omega) (Apart.cons (by omega) Apart.nil)) Apart.nil StM.nil))
    (Obs.val (fun a' w' E => ob_move (.tmp 5) rfl (E.old 5 (by kernel_rfl)))
    (Obs.val (fun a' w' E => ob_move (.tmp 7) rfl (E.old 7 (by kernel_rfl)))
    (Obs.val (fun a' w' E => ob_move (.tmp 8) rfl (E.old 8 (by kernel_rfl)))
    (Obs.val (fun a' w' E => ob_move (.tmp 9) rfl (E.old 9 (by kernel_rfl)))
    (Obs.val (fun a' w' E => ob_move (.tmp 6) rfl (E.old 6 (by kernel_rfl)))
    (Obs.val (fun a' w' E => ob_fcall 92 _ _ rfl (am5 (E.new (v := (B s_0)) 45 0 (by kernel_rfl) rfl) (E.new (v := (B s_2)) 46 1 (by kernel_rfl) rfl) (E.new (v := (B s_4)) 47 2 (by kernel_rfl) rfl) (E.new (v := (B s_6)) 48 3 (by kernel_rfl) rfl) (E.new (v := (B c_7)) 49 4 (by kernel_rfl) rfl)) (fc92 _ _) (c5.out w'))
    (Obs.stk (fun a' w' E hr => ob_storea 24 (.tmp 4) (.tmp 50) rfl (E.old 4 (by kernel_rfl)) (E.new (v := (.agg #[B q_8, B q_9, B q_10, B q_11])) 50 5 (by kernel_rfl) rfl) rfl hr (by kernel_rfl) (Nat.le_of_ble_eq_true rfl) (by kernel_rfl) rfl)
    Obs.nil))))))) ?_
  intro bs w5 aZ haZ F
  have eZ : aZ = ({ tmps := #[(.agg #[B a0, B a1, B a2, B a3]), (.agg #[B b0, B b1, B b2, B b3]), (PT w.heap.size), (PT (w.heap.size + 1)), (PT (w.heap.size + 1 + 1)), (B s_0), (B c_7), (B s_2), (B s_4), (B s_6), (.tuple #[(B s_0), (B c_1)]), (PT w.heap.size), (B a0), (PT (w.heap.size + 1)), (B b0), (.tuple #[(B s_0), (B c_1)]), (B s_0), (B c_1), (.tuple #[(B s_2), (B c_3)]), (PO w.heap.size 1), (B a1), (PO (w.heap.size + 1) 1), (B b1), (B c_1), (.tuple #[(B s_2), (B c_3)]), (B s_2), (B c_3), (.tuple #[(B s_4), (B c_5)]), (PO w.heap.size 2), (B a2), (PO (w.heap.size + 1) 2), (B b2), (B c_3), (.tuple #[(B s_4), (B c_5)]), (B s_4), (B c_5), (.tuple #[(B s_6), (B c_7)]), (PO w.heap.size 3), (B a3), (PO (w.heap.size + 1) 3), (B b3), (B c_5), (.tuple #[(B s_6), (B c_7)]), (B s_6), (B c_7), (B s_0), (B s_2), (B s_4), (B s_6), (B c_7), (.agg #[B q_8, B q_9, B q_10, B q_11])], defers := [] } : Act) := haZ.trans (by kernel_rfl)
  subst eZ
  clear haZ
  replace RR : Hid (RB w w5 [(w.heap.size + 1 + 1, #[B q_8, B q_9, B q_10, B q_11]), (w.heap.size + 1, #[B b0, B b1, B b2, B b3]), (w.heap.size, #[B a0, B a1, B a2, B a3])]) := ⟨F.bw, (RowsAt.cons (F.sk 6 rfl) (RowsAt.cons (F.row 1 rfl) (RowsAt.cons (F.row 0 rfl) RowsAt.nil)))⟩
  clear F qT q0 q1 q2
  go_wp2
  exact bodyPost_ret (v := (.agg #[B q_8, B q_9, B q_10, B q_11])) (resA (p := 4) (ty := 24) rfl (g := w.heap.size + 1 + 1) rfl (RR.out.at 0 rfl) Tryd.underlying24 rfl (by kernel_rfl)) rfl ⟨rfl, RR.out.b⟩
set_option maxRecDepth 100000 in
set_option maxHeartbeats 4000000 in
theorem less_raw (a0 a1 a2 a3 b0 b1 b2 b3 : Nat) {s_0 c_1 s_2 c_3 s_4 c_5 s_6 c_7 u_8 s_9 c_10 s_11 c_12 s_13 c_14 s_15 c_16 : Nat}
    (c1 : XDoes 42 #[(B a0), (B b0), (.int .u64 0)] (.tuple #[(B s_0), (B c_1)]))
    (c2 : XDoes 42 #[(B a1), (B b1), (B c_1)] (.tuple #[(B s_2), (B c_3)]))
    (c3 : XDoes 42 #[(B a2), (B b2), (B c_3)] (.tuple #[(B s_4), (B c_5)]))
    (c4 : XDoes 42 #[(B a3), (B b3), (B c_5)] (.tuple #[(B s_6), (B c_7)]))
    (e5 : IntKind.u64.wrap ((c_7 : Int) * (4294968273 : Int)) = (u_8 : Int))
    (c6 : XDoes 42 #[(B s_0), (B u_8), (.int .u64 0)] (.tuple #[(B s_9), (B c_10)]))
    (c7 : XDoes 42 #[(B s_2), (.int .u64 0), (B c_10)] (.tuple #[(B s_11), (B c_12)]))
    (c8 : XDoes 42 #[(B s_4), (.int .u64 0), (B c_12)] (.tuple #[(B s_13), (B c_14)]))
    (c9 : XDoes 42 #[(B s_6), (.int .u64 0), (B c_14)] (.tuple #[(B s_15), (B c_16)]))
    (w : World) : Calls Tryd.prog 90 #[(.agg #[B a0, B a1, B a2, B a3]), (.agg #[B b0, B b1, B b2, B b3])] w fun e w' => e = .returned (.agg #[B s_9, B s_11, B s_13, B s_15]) ∧ Below w.heap.size w w' := by
  go_enter Tryd.func90, Tryd.ntmps90
  go_upto_region 1 with fail
  refine name_world _ ?_
  intro wF hF0
  have RR : Hid (RB w wF [(w.heap.size + 1 + 1, Zr), (w.heap.size + 1, #[B b0, B b1, B b2, B b3]), (w.heap.size, #[B a0, B a1, B a2, B a3])]) := by rw [hF0]; exact (rbN (rbN (rbN (rb0 w) (by simp)) (by simp)) (by simp))
  clear hF0
  obtain ⟨q2, q1, q0, qT⟩ := RR.out.r.lts
  refine wp_region_told (by kernel_rfl) (by kernel_rfl) (by kernel_rfl) [(w.heap.size, #[B a0, B a1, B a2, B a3]), (w.heap.size + 1, #[B b0, B b1, B b2, B b3]), (w.heap.size + 1 + 1, Zr)]
    [sV (PT w.heap.size),
     sV (B a0),
     sV (PT (w.heap.size + 1)),
     sV (B b0),
     sV (.tuple #[(B s_0), (B c_1)]),
     sV (.tuple #[(B s_0), (B c_1)]),
     sV (B s_0),
     sV (B c_1),
     sV (B s_0),
     sV (B c_1)]
    (by kernel_rfl) RR.out.b (RowsAt.cons (RR.out.at 2 rfl) (RowsAt.cons (RR.out.at 1 rfl) (RowsAt.cons (RR.out.at 0 rfl) RowsAt.nil))) (StOk.of [] rfl StM.nil)
    (Obs.val (fun a' w' E => ob_indexAddr 24 (.tmp 2) (.const (.int .i64 0)) rfl (E.old 2 (by kernel_rfl)) (evc a' (.int .i64 0)) (ix24_0 _ _ w'))
    (Obs.val (fun a' w' E => ob_load1 22 (.tmp 11) rfl (E.new (v := (PT w.heap.size)) 11 0 (by kernel_rfl) rfl) (E.row (g := w.heap.size) (c := #[B a0, B a1, B a2, B a3]) 0 rfl) Tryd.underlying22 rfl rfl)
    (Obs.val (fun a' w' E => ob_indexAddr 24 (.tmp 3) (.const (.int .i64 0)) rfl (E.old 3 (by kernel_rfl)) (evc a' (.int .i64 0)) (ix24_0 _ _ w'))
    (Obs.val (fun a' w' E => ob_load1 22 (.tmp 13) rfl (E.new (v := (PT (w.heap.size + 1))) 13 2 (by kernel_rfl) rfl) (E.row (g := w.heap.size + 1) (c := #[B b0, B b1, B b2, B b3]) 1 rfl) Tryd.underlying22 rfl rfl)
    (Obs.val (fun a' w' E => ob_xcall 42 _ _ rfl (am3 (E.new (v := (B a0)) 12 1 (by kernel_rfl) rfl) (E.new (v := (B b0)) 14 3 (by kernel_rfl) rfl) (evc a' (.int .u64 0))) (xc42 _ _) (c1.out w'))
    (Obs.val (fun a' w' E => ob_move (.tmp 15) rfl (E.new (v := (.tuple #[(B s_0), (B c_1)])) 15 4 (by kernel_rfl) rfl))
    (Obs.val (fun a' w' E => ob_extract (.tmp 10) 0 rfl (E.new (v := (.tuple #[(B s_0), (B c_1)])) 10 5 (by kernel_rfl) rfl) rfl)
    (Obs.val (fun a' w' E => ob_extract (.tmp 10) 1 rfl (E.new (v := (.tuple #[(B s_0), (B c_1)])) 10 5 (by kernel_rfl) rfl) rfl)
    (Obs.val (fun a' w' E => ob_assign (.tmp 16) rfl (E.new (v := (B s_0)) 16 6 (by kernel_rfl) rfl))
    (Obs.val (fun a' w' E => ob_assign (.tmp 17) rfl (E.new (v := (B c_1)) 17 7 (by kernel_rfl) rfl))
    Obs.nil)))))))))) ?_
  intro bs w1 aZ haZ F
  have eZ : aZ = ({ tmps := #[(.agg #[B a0, B a1, B a2, B a3]), (.agg #[B b0, B b1, B b2, B b3]), (PT w.heap.size), (PT (w.heap.size + 1)), (PT (w.heap.size + 1 + 1)), (B s_0), (B c_1), undef, undef, undef, (.tuple #[(B s_0), (B c_1)]), (PT w.heap.size), (B a0), (PT (w.heap.size + 1)), (B b0), (.tuple #[(B s_0), (B c_1)]), (B s_0), (B c_1), undef, undef, undef, undef, undef, undef, undef, undef, undef, undef, undef, undef, undef, undef, undef, undef, undef, undef, undef, undef, undef, undef, undef, undef, undef, undef, undef, undef, undef, undef, undef, undef, undef, undef, undef, undef, undef, undef, undef, undef, undef, undef, undef, undef, undef, undef, undef, undef, undef, undef, undef, undef, undef, undef, undef, undef, undef], defers := [] } : Act) := haZ.trans (by kernel_rfl)
  subst eZ
  clear haZ
  replace RR : Hid (RB w w1 [(w.heap.size + 1 + 1, Zr), (w.heap.size + 1, #[B b0, B b1, B b2, B b3]), (w.heap.size, #[B a0, B a1, B a2, B a3])]) := ⟨F.bw, (RowsAt.cons (F.row 2 rfl) (RowsAt.cons (F.row 1 rfl) (RowsAt.cons (F.row 0 rfl) RowsAt.nil)))⟩
  clear F qT q0 q1 q2
  clear wF
  go_upto_region 2 with fail
  obtain ⟨q2, q1, q0, qT⟩ := RR.out.r.lts
  refine wp_region_told (by kernel_rfl) (by kernel_rfl) (by kernel_rfl) [(w.heap.size, #[B a0, B a1, B a2, B a3]), (w.heap.size + 1, #[B b0, B b1, B b2, B b3]), (w.heap.size + 1 + 1, Zr)]
    [sV (PO w.heap.size 1),
     sV (B a1),
     sV (PO (w.heap.size + 1) 1),
     sV (B b1),
     sV (B c_1),
     sV (.tuple #[(B s_2), (B c_3)]),
     sV (.tuple #[(B s_2), (B c_3)]),
     sV (B s_2),
     sV (B c_3),
     sV (B s_2),
     sV (B c_3)]
    (by kernel_rfl) RR.out.b (RowsAt.cons (RR.out.at 2 rfl) (RowsAt.cons (RR.out.at 1 rfl) (RowsAt.cons (RR.out.at 0 rfl) RowsAt.nil))) (StOk.of [] rfl StM.nil)
    (Obs.val (fun a' w' E => ob_indexAddr 24 (.tmp 2) (.const (.int .i64 1)) rfl (E.old 2 (by kernel_rfl)) (evc a' (.int .i64 1)) (ix24_1 _ _ w'))
    (Obs.val (fun a' w' E => ob_load1 22 (.tmp 19) rfl (E.new (v := (PO w.heap.size 1)) 19 0 (by kernel_rfl) rfl) (E.row (g := w.heap.size) (c := #[B a0, B a1, B a2, B a3]) 0 rfl) Tryd.underlying22 rfl rfl)
    (Obs.val (fun a' w' E => ob_indexAddr 24 (.tmp 3) (.const (.int .i64 1)) rfl (E.old 3 (by kernel_rfl)) (evc a' (.int .i64 1)) (ix24_1 _ _ w'))
    (Obs.val (fun a' w' E => ob_load1 22 (.tmp 21) rfl (E.new (v := (PO (w.heap.size + 1) 1)) 21 2 (by kernel_rfl) rfl) (E.row (g := w.heap.size + 1) (c := #[B b0, B b1, B b2, B b3]) 1 rfl) Tryd.underlying22 rfl rfl)
    (Obs.val (fun a' w' E => ob_move (.tmp 6) rfl (E.olds 6 10 (by kernel_rfl) (by kernel_rfl)))
    (Obs.val (fun a' w' E => ob_xcall 42 _ _ rfl (am3 (E.new (v := (B a1)) 20 1 (by kernel_rfl) rfl) (E.new (v := (B b1)) 22 3 (by kernel_rfl) rfl) (E.new (v := (B c_1)) 23 4 (by kernel_rfl) rfl)) (xc42 _ _) (c2.out w'))
    (Obs.val (fun a' w' E => ob_move (.tmp 24) rfl (E.new (v := (.tuple #[(B s_2), (B c_3)])) 24 5 (by kernel_rfl) rfl))
    (Obs.val (fun a' w' E => ob_extract (.tmp 18) 0 rfl (E.new (v := (.tuple #[(B s_2), (B c_3)])) 18 6 (by kernel_rfl) rfl) rfl)
    (Obs.val (fun a' w' E => ob_extract (.tmp 18) 1 rfl (E.new (v := (.tuple #[(B s_2), (B c_3)])) 18 6 (by kernel_rfl) rfl) rfl)
    (Obs.val (fun a' w' E => ob_assign (.tmp 25) rfl (E.new (v := (B s_2)) 25 7 (by kernel_rfl) rfl))
    (Obs.val (fun a' w' E => ob_assign (.tmp 26) rfl (E.new (v := (B c_3)) 26 8 (by kernel_rfl) rfl))
    Obs.nil))))))))))) ?_
  intro bs w2 aZ haZ F
  have eZ : aZ = ({ tmps := #[(.agg #[B a0, B a1, B a2, B a3]), (.agg #[B b0, B b1, B b2, B b3]), (PT w.heap.size), (PT (w.heap.size + 1)), (PT (w.heap.size + 1 + 1)), (B s_0), (B c_3), (B s_2), undef, undef, (.tuple #[(B s_0), (B c_1)]), (PT w.heap.size), (B a0), (PT (w.heap.size + 1)), (B b0), (.tuple #[(B s_0), (B c_1)]), (B s_0), (B c_1), (.tuple #[(B s_2), (B c_3)]), (PO w.heap.size 1), (B a1), (PO (w.heap.size + 1) 1), (B b1), (B c_1), (.tuple #[(B s_2), (B c_3)]), (B s_2), (B c_3), undef, undef, undef, undef, undef, undef, undef, undef, undef, undef, undef, undef, undef, undef, undef, undef, undef, undef, undef, undef, undef, undef, undef, undef, undef, undef, undef, undef, undef, undef, undef, undef, undef, undef, undef, undef, undef, undef, undef, undef, undef, undef, undef, undef, undef, undef, undef, undef], defers := [] } : Act) := haZ.trans (by kernel_rfl)
  subst eZ
  clear haZ
  replace RR : Hid (RB w w2 [(w.heap.size + 1 + 1, Zr), (w.heap.size + 1, #[B b0, B b1, B b2, B b3]), (w.heap.size, #[B a0, B a1, B a2, B a3])]) := ⟨F.bw, (RowsAt.cons (F.row 2 rfl) (RowsAt.cons (F.row 1 rfl) (RowsAt.cons (F.row 0 rfl) RowsAt.nil)))⟩
  clear F qT q0 q1 q2
  go_upto_region 3 with fail
  obtain ⟨q2, q1, q0, qT⟩ := RR.out.r.lts
  refine wp_region_told (by kernel_rfl) (by kernel_rfl) (by kernel_rfl) [(w.heap.size, #[B a0, B a1, B a2, B a3]), (w.heap.size + 1, #[B b0, B b1, B b2, B b3]), (w.heap.size + 1 + 1, Zr)]
    [sV (PO w.heap.size 2),
     sV (B a2),
     sV (PO (w.heap.size + 1) 2),
     sV (B b2),
     sV (B c_3),
     sV (.tuple #[(B s_4), (B c_5)]),
     sV (.tuple #[(B s_4), (B c_5)]),
     sV (B s_4),
     sV (B c_5),
     sV (B s_4),
     sV (B c_5)]
    (by kernel_rfl) RR.out.b (RowsAt.cons (RR.out.at 2 rfl) (RowsAt.cons (RR.out.at 1 rfl) (RowsAt.cons (RR.out.at 0 rfl) RowsAt.nil))) (StOk.of [] rfl StM.nil)
    (Obs.val (fun a' w' E => ob_indexAddr 24 (.tmp 2) (.const (.int .i64 2)) rfl (E.old 2 (by kernel_rfl)) (evc a' (.int .i64 2)) (ix24_2 _ _ w'))
    (Obs.val (fun a' w' E => ob_load1 22 (.tmp 28) rfl (E.new (v := (PO w.heap.size 2)) 28 0 (by kernel_rfl) rfl) (E.row (g := w.heap.size) (c := #[B a0, B a1, B a2, B a3]) 0 rfl) Tryd.underlying22 rfl rfl)
    (Obs.val (fun a' w' E => ob_indexAddr 24 (.tmp 3) (.const (.int .i64 2)) rfl (E.old 3 (by kernel_rfl)) (evc a' (.int .i64 2)) (ix24_2 _ _ w'))
    (Obs.val (fun a' w' E => ob_load1 22 (.tmp 30) rfl (E.new (v := (PO (w.heap.size + 1) 2)) 30 2 (by kernel_rfl) rfl) (E.row (g := w.heap.size + 1) (c := #[B b0, B b1, B b2, B b3]) 1 rfl) Tryd.underlying22 rfl rfl)
    (Obs.val (fun a' w' E => ob_move (.tmp 6) rfl (E.olds 6 10 (by kernel_rfl) (by kernel_rfl)))
    (Obs.val (fun a' w' E => ob_xcall 42 _ _ rfl (am3 (E.new (v := (B a2)) 29 1 (by kernel_rfl) rfl) (E.new (v := (B b2)) 31 3 (by kernel_rfl) rfl) (E.new (v := (B c_3)) 32 4 (by kernel_rfl) rfl)) (xc42 _ _) (c3.out w'))
    (Obs.val (fun a' w' E => ob_move (.tmp 33) rfl (E.new (v := (.tuple #[(B s_4), (B c_5)])) 33 5 (by kernel_rfl) rfl))
    (Obs.val (fun a' w' E => ob_extract (.tmp 27) 0 rfl (E.new (v := (.tuple #[(B s_4), (B c_5)])) 27 6 (by kernel_rfl) rfl) rfl)
    (Obs.val (fun a' w' E => ob_extract (.tmp 27) 1 rfl (E.new (v := (.tuple #[(B s_4), (B c_5)])) 27 6 (by kernel_rfl) rfl) rfl)
    (Obs.val (fun a' w' E => ob_assign (.tmp 34) rfl (E.new (v := (B s_4)) 34 7 (by kernel_rfl) rfl))
    (Obs.val (fun a' w' E => ob_assign (.tmp 35) rfl (E.new (v := (B c_5)) 35 8 (by kernel_rfl) rfl))
    Obs.nil))))))))))) ?_
  intro bs w3 aZ haZ F
  have eZ : aZ = ({ tmps := #[(.agg #[B a0, B a1, B a2, B a3]), (.agg #[B b0, B b1, B b2, B b3]), (PT w.heap.size), (PT (w.heap.size + 1)), (PT (w.heap.size + 1 + 1)), (B s_0), (B c_5), (B s_2), (B s_4), undef, (.tuple #[(B s_0), (B c_1)]), (PT w.heap.size), (B a0), (PT (w.heap.size + 1)), (B b0), (.tuple #[(B s_0), (B c_1)]), (B s_0), (B c_1), (.tuple #[(B s_2), (B c_3)]), (PO w.heap.size 1), (B a1), (PO (w.heap.size + 1) 1), (B b1), (B c_1), (.tuple #[(B s_2), (B c_3)]), (B s_2), (B c_3), (.tuple #[(B s_4), (B c_5)]), (PO w.heap.size 2), (B a2), (PO (w.heap.size + 1) 2), (B b2), (B c_3), (.tuple #[(B s_4), (B c_5)]), (B s_4), (B c_5), undef, undef, undef, undef, undef, undef, undef, undef, undef, undef, undef, undef, undef, undef, undef, undef, undef, undef, undef, undef, undef, undef, undef, undef, undef, undef, undef, undef, undef, undef, undef, undef, undef, undef, undef, undef, undef, undef, undef], defers := [] } : Act) := haZ.trans (by kernel_rfl)
  subst eZ
  clear haZ
  replace RR : Hid (RB w w3 [(w.heap.size + 1 + 1, Zr), (w.heap.size + 1, #[B b0, B b1, B b2, B b3]), (w.heap.size, #[B a0, B a1, B a2, B a3])]) := ⟨F.bw, (RowsAt.cons (F.row 2 rfl) (RowsAt.cons (F.row 1 rfl) (RowsAt.cons (F.row 0 rfl) RowsAt.nil)))⟩
  clear F qT q0 q1 q2
  go_upto_region 4 with fail
  obtain ⟨q2, q1, q0, qT⟩ := RR.out.r.lts
  refine wp_region_told (by kernel_rfl) (by kernel_rfl) (by kernel_rfl) [(w.heap.size, #[B a0, B a1, B a2, B a3]), (w.heap.size + 1, #[B b0, B b1, B b2, B b3]), (w.heap.size + 1 + 1, Zr)]
    [sV (PO w.heap.size 3),
     sV (B a3),
     sV (PO (w.heap.size + 1) 3),
     sV (B b3),
     sV (B c_5),
     sV (.tuple #[(B s_6), (B c_7)]),
     sV (.tuple #[(B s_6), (B c_7)]),
     sV (B s_6),
     sV (B c_7),
     sV (B s_6),
     sV (B c_7)]
    (by kernel_rfl) RR.out.b (RowsAt.cons (RR.out.at 2 rfl) (RowsAt.cons (RR.out.at 1 rfl) (RowsAt.cons (RR.out.at 0 rfl) RowsAt.nil))) (StOk.of [] rfl StM.nil)
    (Obs.val (fun a' w' E => ob_indexAddr 24 (.tmp 2) (.const (.int .i64 3)) rfl (E.old 2 (by kernel_rfl)) (evc a' (.int .i64 3)) (ix24_3 _ _ w'))
    (Obs.val (fun a' w' E => ob_load1 22 (.tmp 37) rfl (E.new (v := (PO w.heap.size 3)) 37 0 (by kernel_rfl) rfl) (E.row (g := w.heap.size) (c := #[B a0, B a1, B a2, B a3]) 0 rfl) Tryd.underlying22 rfl rfl)
    (Obs.val (fun a' w' E => ob_indexAddr 24 (.tmp 3) (.const (.int .i64 3)) rfl (E.old 3 (by kernel_rfl)) (evc a' (.int .i64 3)) (ix24_3 _ _ w'))
    (Obs.val (fun a' w' E => ob_load1 22 (.tmp 39) rfl (E.new (v := (PO (w.heap.size + 1) 3)) 39 2 (by kernel_rfl) rfl) (E.row (g := w.heap.size + 1) (c := #[B b0, B b1, B b2, B b3]) 1 rfl) Tryd.underlying22 rfl rfl)
    (Obs.val (fun a' w' E => ob_move (.tmp 6) rfl (E.olds 6 10 (by kernel_rfl) (by kernel_rfl)))
    (Obs.val (fun a' w' E => ob_xcall 42 _ _ rfl (am3 (E.new (v := (B a3)) 38 1 (by kernel_rfl) rfl) (E.new (v := (B b3)) 40 3 (by kernel_rfl) rfl) (E.new (v := (B c_5)) 41 4 (by kernel_rfl) rfl)) (xc42 _ _) (c4.out w'))
    (Obs.val (fun a' w' E => ob_move (.tmp 42) rfl (E.new (v := (.tuple #[(B s_6), (B c_7)])) 42 5 (by kernel_rfl) rfl))
    (Obs.val (fun a' w' E => ob_extract (.tmp 36) 0 rfl (E.new (v := (.tuple #[(B s_6), (B c_7)])) 36 6 (by kernel_rfl) rfl) rfl)
    (Obs.val (fun a' w' E => ob_extract (.tmp 36) 1 rfl (E.new (v := (.tuple #[(B s_6), (B c_7)])) 36 6 (by kernel_rfl) rfl) rfl)
    (Obs.val (fun a' w' E => ob_assign (.tmp 43) rfl (E.new (v := (B s_6)) 43 7 (by kernel_rfl) rfl))
    (Obs.val (fun a' w' E => ob_assign (.tmp 44) rfl (E.new (v := (B c_7)) 44 8 (by kernel_rfl) rfl))
    Obs.nil))))))))))) ?_
  intro bs w4 aZ haZ F
  have eZ : aZ = ({ tmps := #[(.agg #[B a0, B a1, B a2, B a3]), (.agg #[B b0, B b1, B b2, B b3]), (PT w.heap.size), (PT (w.heap.size + 1)), (PT (w.heap.size + 1 + 1)), (B s_0), (B c_7), (B s_2), (B s_4), (B s_6), (.tuple #[(B s_0), (B c_1)]), (PT w.heap.size), (B a0), (PT (w.heap.size + 1)), (B b0), (.tuple #[(B s_0), (B c_1)]), (B s_0), (B c_1), (.tuple #[(B s_2), (B c_3)]), (PO w.heap.size 1), (B a1), (PO (w.heap.size + 1) 1), (B b1), (B c_1), (.tuple #[(B s_2), (B c_3)]), (B s_2), (B c_3), (.tuple #[(B s_4), (B c_5)]), (PO w.heap.size 2), (B a2), (PO (w.heap.size + 1) 2), (B b2), (B c_3), (.tuple #[(B s_4), (B c_5)]), (B s_4), (B c_5), (.tuple #[(B s_6), (B c_7)]), (PO w.heap.size 3), (B a3), (PO (w.heap.size + 1) 3), (B b3), (B c_5), (.tuple #[(B s_6), (B c_7)]), (B s_6), (B c_7), undef, undef, undef, undef, undef, undef, undef, undef, undef, undef, undef, undef, undef, undef, undef, undef, undef, undef, undef, undef, undef, undef, undef, undef, undef, undef, undef, undef, undef, undef], defers := [] } : Act) := haZ.trans (by kernel_rfl)
  subst eZ
  clear haZ
  replace RR : Hid (RB w w4 [(w.heap.size + 1 + 1, Zr), (w.heap.size + 1, #[B b0, B b1, B b2, B b3]), (w.heap.size, #[B a0, B a1, B a2, B a3])]) := ⟨F.bw, (RowsAt.cons (F.row 2 rfl) (RowsAt.cons (F.row 1 rfl) (RowsAt.cons (F.row 0 rfl) RowsAt.nil)))⟩
  clear F qT q0 q1 q2
  go_upto_region 5 with fail
  obtain ⟨q2, q1, q0, qT⟩ := RR.out.r.lts
  refine wp_region_told (by kernel_rfl) (by kernel_rfl) (by kernel_rfl) [(w.heap.size, #[B a0, B a1, B a2, B a3]), (w.heap.size + 1, #[B b0, B b1, B b2, B b3]), (w.heap.size + 1 + 1, Zr)]
    [sV (B s_0),
     sV (B c_7),
     sV (B u_8),
     sV (.tuple #[(B s_9), (B c_10)]),
     sV (.tuple #[(B s_9), (B c_10)]),
     sV (B s_9),
     sV (B c_10),
     sV (B s_9),
     sV (B c_10)]
    (by kernel_rfl) RR.out.b (RowsAt.cons (RR.out.at 2 rfl) (RowsAt.cons (RR.out.at 1 rfl) (RowsAt.cons (RR.out.at 0 rfl) RowsAt.nil))) (StOk.of [] rfl StM.nil)
    (Obs.val (fun a' w' E => ob_move (.tmp 5) rfl (E.olds 5 7 (by kernel_rfl) (by kernel_rfl)))
    (Obs.val (fun a' w' E => ob_move (.tmp 6) rfl (E.olds 6 8 (by kernel_rfl) (by kernel_rfl)))
    (Obs.val (fun a' w' E => ob_binOp .mul 22 (.tmp 47) (.const (.int .u64 4294968273)) 22 rfl (E.new (v := (B c_7)) 47 1 (by kernel_rfl) rfl) (evc a' (.int .u64 4294968273)) (by simp [go_sem, e5]))
    (Obs.val (fun a' w' E => ob_xcall 42 _ _ rfl (am3 (E.new (v := (B s_0)) 46 0 (by kernel_rfl) rfl) (E.new (v := (B u_8)) 48 2 (by kernel_rfl) rfl) (evc a' (.int .u64 0))) (xc42 _ _) (c6.out w'))
    (Obs.val (fun a' w' E => ob_move (.tmp 49) rfl (E.new (v := (.tuple #[(B s_9), (B c_10)])) 49 3 (by kernel_rfl) rfl))
    (Obs.val (fun a' w' E => ob_extract (.tmp 45) 0 rfl (E.new (v := (.tuple #[(B s_9), (B c_10)])) 45 4 (by kernel_rfl) rfl) rfl)
    (Obs.val (fun a' w' E => ob_extract (.tmp 45) 1 rfl (E.new (v := (.tuple #[(B s_9), (B c_10)])) 45 4 (by kernel_rfl) rfl) rfl)
    (Obs.val (fun a' w' E => ob_assign (.tmp 50) rfl (E.new (v := (B s_9)) 50 5 (by kernel_rfl) rfl))
    (Obs.val (fun a' w' E => ob_assign (.tmp 51) rfl (E.new (v := (B c_10)) 51 6 (by kernel_rfl) rfl))
    Obs.nil))))))))) ?_
  intro bs w5 aZ haZ F
  have eZ : aZ = ({ tmps := #[(.agg #[B a0, B a1, B a2, B a3]), (.agg #[B b0, B b1, B b2, B b3]), (PT w.heap.size), (PT (w.heap.size + 1)), (PT (w.heap.size + 1 + 1)), (B s_9), (B c_10), (B s_2), (B s_4), (B s_6), (.tuple #[(B s_0), (B c_1)]), (PT w.heap.size), (B a0), (PT (w.heap.size + 1)), (B b0), (.tuple #[(B s_0), (B c_1)]), (B s_0), (B c_1), (.tuple #[(B s_2), (B c_3)]), (PO w.heap.size 1), (B a1), (PO (w.heap.size + 1) 1), (B b1), (B c_1), (.tuple #[(B s_2), (B c_3)]), (B s_2), (B c_3), (.tuple #[(B s_4), (B c_5)]), (PO w.heap.size 2), (B a2), (PO (w.heap.size + 1) 2), (B b2), (B c_3), (.tuple #[(B s_4), (B c_5)]), (B s_4), (B c_5), (.tuple #[(B s_6), (B c_7)]), (PO w.heap.size 3), (B a3), (PO (w.heap.size + 1) 3), (B b3), (B c_5), (.tuple #[(B s_6), (B c_7)]), (B s_6), (B c_7), (.tuple #[(B s_9), (B c_10)]), (B s_0), (B c_7), (B u_8), (.tuple #[(B s_9), (B c_10)]), (B s_9), (B c_10), undef, undef, undef, undef, undef, undef, undef, undef, undef, undef, undef, undef, undef, undef, undef, undef, undef, undef, undef, undef, undef, undef, undef], defers := [] } : Act) := haZ.trans (by kernel_rfl)
  subst eZ
  clear haZ
  replace RR : Hid (RB w w5 [(w.heap.size + 1 + 1, Zr), (w.heap.size + 1, #[B b0, B b1, B b2, B b3]), (w.heap.size, #[B a0, B a1, B a2, B a3])]) := ⟨F.bw, (RowsAt.cons (F.row 2 rfl) (RowsAt.cons (F.row 1 rfl) (RowsAt.cons (F.row 0 rfl) RowsAt.nil)))⟩
  clear F qT q0 q1 q2
  go_upto_region 6 with fail
  obtain ⟨q2, q1, q0, qT⟩ := RR.out.r.lts
  refine wp_region_told (by kernel_rfl) (by kernel_rfl) (by kernel_rfl) [(w.heap.size, #[B a0, B a1, B a2, B a3]), (w.heap.size + 1, #[B b0, B b1, B b2, B b3]), (w.heap.size + 1 + 1, Zr)]
    [sV (B s_2),
     sV (B c_10),
     sV (.tuple #[(B s_11), (B c_12)]),
     sV (.tuple #[(B s_11), (B c_12)]),
     sV (B s_11),
     sV (B c_12),
     sV (B s_11),
     sV (B c_12)]
    (by kernel_rfl) RR.out.b (RowsAt.cons (RR.out.at 2 rfl) (RowsAt.cons (RR.out.at 1 rfl) (RowsAt.cons (RR.out.at 0 rfl) RowsAt.nil))) (StOk.of [] rfl StM.nil)
    (Obs.val (fun a' w' E => ob_move (.tmp 7) rfl (E.olds 7 6 (by kernel_rfl) (by kernel_rfl)))
    (Obs.val (fun a' w' E => ob_move (.tmp 6) rfl (E.olds 6 7 (by kernel_rfl) (by kernel_rfl)))
    (Obs.val (fun a' w' E => ob_xcall 42 _ _ rfl (am3 (E.new (v := (B s_2)) 53 0 (by kernel_rfl) rfl) (evc a' (.int .u64 0)) (E.new (v := (B c_10)) 54 1 (by kernel_rfl) rfl)) (xc42 _ _) (c7.out w'))
    (Obs.val (fun a' w' E => ob_move (.tmp 55) rfl (E.new (v := (.tuple #[(B s_11), (B c_12)])) 55 2 (by kernel_rfl) rfl))
    (Obs.val (fun a' w' E => ob_extract (.tmp 52) 0 rfl (E.new (v := (.tuple #[(B s_11), (B c_12)])) 52 3 (by kernel_rfl) rfl) rfl)
    (Obs.val (fun a' w' E => ob_extract (.tmp 52) 1 rfl (E.new (v := (.tuple #[(B s_11), (B c_12)])) 52 3 (by kernel_rfl) rfl) rfl)
    (Obs.val (fun a' w' E => ob_assign (.tmp 56) rfl (E.new (v := (B s_11)) 56 4 (by kernel_rfl) rfl))
    (Obs.val (fun a' w' E => ob_assign (.tmp 57) rfl (E.new (v := (B c_12)) 57 5 (by kernel_rfl) rfl))
    Obs.nil)))))))) ?_
  intro bs w6 aZ haZ F
  have eZ : aZ = ({ tmps := #[(.agg #[B a0, B a1, B a2, B a3]), (.agg #[B b0, B b1, B b2, B b3]), (PT w.heap.size), (PT (w.heap.size + 1)), (PT (w.heap.size + 1 + 1)), (B s_9), (B c_12), (B s_11), (B s_4), (B s_6), (.tuple #[(B s_0), (B c_1)]), (PT w.heap.size), (B a0), (PT (w.heap.size + 1)), (B b0), (.tuple #[(B s_0), (B c_1)]), (B s_0), (B c_1), (.tuple #[(B s_2), (B c_3)]), (PO w.heap.size 1), (B a1), (PO (w.heap.size + 1) 1), (B b1), (B c_1), (.tuple #[(B s_2), (B c_3)]), (B s_2), (B c_3), (.tuple #[(B s_4), (B c_5)]), (PO w.heap.size 2), (B a2), (PO (w.heap.size + 1) 2), (B b2), (B c_3), (.tuple #[(B s_4), (B c_5)]), (B s_4), (B c_5), (.tuple #[(B s_6), (B c_7)]), (PO w.heap.size 3), (B a3), (PO (w.heap.size + 1) 3), (B b3), (B c_5), (.tuple #[(B s_6), (B c_7)]), (B s_6), (B c_7), (.tuple #[(B s_9), (B c_10)]), (B s_0), (B c_7), (B u_8), (.tuple #[(B s_9), (B c_10)]), (B s_9), (B c_10), (.tuple #[(B s_11), (B c_12)]), (B s_2), (B c_10), (.tuple #[(B s_11), (B c_12)]), (B s_11), (B c_12), undef, undef, undef, undef, undef, undef, undef, undef, undef, undef, undef, undef, undef, undef, undef, undef, undef], defers := [] } : Act) := haZ.trans (by kernel_rfl)
  subst eZ
  clear haZ
  replace RR : Hid (RB w w6 [(w.heap.size + 1 + 1, Zr), (w.heap.size + 1, #[B b0, B b1, B b2, B b3]), (w.heap.size, #[B a0, B a1, B a2, B a3])]) := ⟨F.bw, (RowsAt.cons (F.row 2 rfl) (RowsAt.cons (F.row 1 rfl) (RowsAt.cons (F.row 0 rfl) RowsAt.nil)))⟩
  clear F qT q0 q1 q2
  go_upto_region 7 with fail
  obtain ⟨q2, q1, q0, qT⟩ := RR.out.r.lts
  refine wp_region_told (by kernel_rfl) (by kernel_rfl) (by kernel_rfl) [(w.heap.size, #[B a0, B a1, B a2, B a3]), (w.heap.size + 1, #[B b0, B b1, B b2, B b3]), (w.heap.size + 1 + 1, Zr)]
    [sV (B s_4),
     sV (B c_12),
     sV (.tuple #[(B s_13), (B c_14)]),
     sV (.tuple #[(B s_13), (B c_14)]),
     sV (B s_13),
     sV (B c_14),
     sV (B s_13),
     sV (B c_14)]
    (by kernel_rfl) RR.out.b (RowsAt.cons (RR.out.at 2 rfl) (RowsAt.cons (RR.out.at 1 rfl) (RowsAt.cons (RR.out.at 0 rfl) RowsAt.nil))) (StOk.of [] rfl StM.nil)
    (Obs.val (fun a' w' E => ob_move (.tmp 8) rfl (E.olds 8 6 (by kernel_rfl) (by kernel_rfl)))
    (Obs.val (fun a' w' E => ob_move (.tmp 6) rfl (E.olds 6 7 (by kernel_rfl) (by kernel_rfl)))
    (Obs.val (fun a' w' E => ob_xcall 42 _ _ rfl (am3 (E.new (v := (B s_4)) 59 0 (by kernel_rfl) rfl) (evc a' (.int .u64 0)) (E.new (v := (B c_12)) 60 1 (by kernel_rfl) rfl)) (xc42 _ _) (c8.out w'))
    (Obs.val (fun a' w' E => ob_move (.tmp 61) rfl (E.new (v := (.tuple #[(B s_13), (B c_14)])) 61 2 (by kernel_rfl) rfl))
    (Obs.val (fun a' w' E => ob_extract (.tmp 58) 0 rfl (E.new (v := (.tuple #[(B s_13), (B c_14)])) 58 3 (by kernel_rfl) rfl) rfl)
    (Obs.val (fun a' w' E => ob_extract (.tmp 58) 1 rfl (E.new (v := (.tuple #[(B s_13), (B c_14)])) 58 3 (by kernel_rfl) rfl) rfl)
    (Obs.val (fun a' w' E => ob_assign (.tmp 62) rfl (E.new (v := (B s_13)) 62 4 (by kernel_rfl) rfl))
    (Obs.val (fun a' w' E => ob_assign (.tmp 63) rfl (E.new (v := (B c_14)) 63 5 (by kernel_rfl) rfl))
    Obs.nil)))))))) ?_
  intro bs w7 aZ haZ F
  have eZ : aZ = ({ tmps := #[(.agg #[B a0, B a1, B a2, B a3]), (.agg #[B b0, B b1, B b2, B b3]), (PT w.heap.size), (PT (w.heap.size + 1)), (PT (w.heap.size + 1 + 1)), (B s_9), (B c_14), (B s_11), (B s_13), (B s_6), (.tuple #[(B s_0), (B c_1)]), (PT w.heap.size), (B a0), (PT (w.heap.size + 1)), (B b0), (.tuple #[(B s_0), (B c_1)]), (B s_0), (B c_1), (.tuple #[(B s_2), (B c_3)]), (PO w.heap.size 1), (B a1), (PO (w.heap.size + 1) 1), (B b1), (B c_1), (.tuple #[(B s_2), (B c_3)]), (B s_2), (B c_3), (.tuple #[(B s_4), (B c_5)]), (PO w.heap.size 2), (B a2), (PO (w.heap.size + 1) 2), (B b2), (B c_3), (.tuple #[(B s_4), (B c_5)]), (B s_4), (B c_5), (.tuple #[(B s_6), (B c_7)]), (PO w.heap.size 3), (B a3), (PO (w.heap.size + 1) 3), (B b3), (B c_5), (.tuple #[(B s_6), (B c_7)]), (B s_6), (B c_7), (.tuple #[(B s_9), (B c_10)]), (B s_0), (B c_7), (B u_8), (.tuple #[(B s_9), (B c_10)]), (B s_9), (B c_10), (.tuple #[(B s_11), (B c_12)]), (B s_2), (B c_10), (.tuple #[(B s_11), (B c_12)]), (B s_11), (B c_12), (.tuple #[(B s_13), (B c_14)]), (B s_4), (B c_12), (.tuple #[(B s_13), (B c_14)]), (B s_13), (B c_14), undef, undef, undef, undef, undef, undef, undef, undef, undef, undef, undef], defers := [] } : Act) := haZ.trans (by kernel_rfl)
  subst eZ
  clear haZ
  replace RR : Hid (RB w w7 [(w.heap.size + 1 + 1, Zr), (w.heap.size + 1, #[B b0, B b1, B b2, B b3]), (w.heap.size, #[B a0, B a1, B a2, B a3])]) := ⟨F.bw, (RowsAt.cons (F.row 2 rfl) (RowsAt.cons (F.row 1 rfl) (RowsAt.cons (F.row 0 rfl) RowsAt.nil)))⟩
  clear F qT q0 q1 q2
  go_upto_region 8 with fail
  obtain ⟨q2, q1, q0, qT⟩ := RR.out.r.lts
  refine wp_region_told (by kernel_rfl) (by kernel_rfl) (by kernel_rfl) [(w.heap.size, #[B a0, B a1, B a2, B a3]), (w.heap.size + 1, #[B b0, B b1, B b2, B b3]), (w.heap.size + 1 + 1, Zr)]
    [sV (B s_6),
     sV (B c_14),
     sV (.tuple #[(B s_15), (B c_16)]),
     sV (.tuple #[(B s_15), (B c_16)]),
     sV (B s_15),
     sV (B c_16),
     sV (B s_15)]
    (by kernel_rfl) RR.out.b (RowsAt.cons (RR.out.at 2 rfl) (RowsAt.cons (RR.out.at 1 rfl) (RowsAt.cons (RR.out.at 0 rfl) RowsAt.nil))) (StOk.of [] rfl StM.nil)
    (Obs.val (fun a' w' E => ob_move (.tmp 9) rfl (E.olds 9 6 (by kernel_rfl) (by kernel_rfl)))
    (Obs.val (fun a' w' E => ob_move (.tmp 6) rfl (E.old 6 (by kernel_rfl)))
    (Obs.val (fun a' w' E => ob_xcall 42 _ _ rfl (am3 (E.new (v := (B s_6)) 65 0 (by kernel_rfl) rfl) (evc a' (.int .u64 0)) (E.new (v := (B c_14)) 66 1 (by kernel_rfl) rfl)) (xc42 _ _) (c9.out w'))
    (Obs.val (fun a' w' E => ob_move (.tmp 67) rfl (E.new (v := (.tuple #[(B s_15), (B c_16)])) 67 2 (by kernel_rfl) rfl))
    (Obs.val (fun a' w' E => ob_extract (.tmp 64) 0 rfl (E.new (v := (.tuple #[(B s_15), (B c_16)])) 64 3 (by kernel_rfl) rfl) rfl)
    (Obs.val (fun a' w' E => ob_extract (.tmp 64) 1 rfl (E.new (v := (.tuple #[(B s_15), (B c_16)])) 64 3 (by kernel_rfl) rfl) rfl)
    (Obs.val (fun a' w' E => ob_assign (.tmp 68) rfl (E.new (v := (B s_15)) 68 4 (by kernel_rfl) rfl))
    Obs.nil))))))) ?_
  intro bs w8 aZ haZ F
  have eZ : aZ = ({ tmps := #[(.agg #[B a0, B a1, B a2, B a3]), (.agg #[B b0, B b1, B b2, B b3]), (PT w.heap.size), (PT (w.heap.size + 1)), (PT (w.heap.size + 1 + 1)), (B s_9), (B c_14), (B s_11), (B s_13), (B s_15), (.tuple #[(B s_0), (B c_1)]), (PT w.heap.size), (B a0), (PT (w.heap.size + 1)), (B b0), (.tuple #[(B s_0), (B c_1)]), (B s_0), (B c_1), (.tuple #[(B s_2), (B c_3)]), (PO w.heap.size 1), (B a1), (PO (w.heap.size + 1) 1), (B b1), (B c_1), (.tuple #[(B s_2), (B c_3)]), (B s_2), (B c_3), (.tuple #[(B s_4), (B c_5)]), (PO w.heap.size 2), (B a2), (PO (w.heap.size + 1) 2), (B b2), (B c_3), (.tuple #[(B s_4), (B c_5)]), (B s_4), (B c_5), (.tuple #[(B s_6), (B c_7)]), (PO w.heap.size 3), (B a3), (PO (w.heap.size + 1) 3), (B b3), (B c_5), (.tuple #[(B s_6), (B c_7)]), (B s_6), (B c_7), (.tuple #[(B s_9), (B c_10)]), (B s_0), (B c_7), (B u_8), (.tuple #[(B s_9), (B c_10)]), (B s_9), (B c_10), (.tuple #[(B s_11), (B c_12)]), (B s_2), (B c_10), (.tuple #[(B s_11), (B c_12)]), (B s_11), (B c_12), (.tuple #[(B s_13), (B c_14)]), (B s_4), (B c_12), (.tuple #[(B s_13), (B c_14)]), (B s_13), (B c_14), (.tuple #[(B s_15), (B c_16)]), (B s_6), (B c_14), (.tuple #[(B s_15), (B c_16)]), (B s_15), (B c_16), undef, undef, undef, undef, undef], defers := [] } : Act) := haZ.trans (by kernel_rfl)
  subst eZ
  clear haZ
  replace RR : Hid (RB w w8 [(w.heap.size + 1 + 1, Zr), (w.heap.size + 1, #[B b0, B b1, B b2, B b3]), (w.heap.size, #[B a0, B a1, B a2, B a3])]) := ⟨F.bw, (RowsAt.cons (F.row 2 rfl) (RowsAt.cons (F.row 1 rfl) (RowsAt.cons (F.row 0 rfl) RowsAt.nil)))⟩
  clear F qT q0 q1 q2
  go_upto_region 9 with fail
  obtain ⟨q2, q1, q0, qT⟩ := RR.out.r.lts
  refine wp_region_told (by kernel_rfl) (by kernel_rfl) (by kernel_rfl) [(w.heap.size, #[B a0, B a1, B a2, B a3]), (w.heap.size + 1, #[B b0, B b1, B b2, B b3])]
    [sV (B s_9),
     sV (B s_11),
     sV (B s_13),
     sV (B s_15),
     sV (.agg #[B s_9, B s_11, B s_13, B s_15]),
     sK (w.heap.size + 1 + 1) Zr #[B s_9, B s_11, B s_13, B s_15]]
    (by kernel_rfl) RR.out.b (RowsAt.cons (RR.out.at 2 rfl) (RowsAt.cons (RR.out.at 1 rfl) RowsAt.nil)) (StOk.of [(w.heap.size + 1 + 1, Zr)] rfl (StM.cons (RR.out.at 0 rfl) (by omega) (Apart.cons (by omega) (Apart.cons (by omega) Apart.nil)) Apart.nil StM.nil))
    (Obs.val (fun a' w' E => ob_move (.tmp 5) rfl (E.old 5 (by kernel_rfl)))
    (Obs.val (fun a' w' E => ob_move (.tmp 7) rfl (E.old 7 (by kernel_rfl)))
    (Obs.val (fun a' w' E => ob_move (.tmp 8) rfl (E.old 8 (by kernel_rfl)))
    (Obs.val (fun a' w' E => ob_move (.tmp 9) rfl (E.old 9 (by kernel_rfl)))
    (Obs.val (fun a' w' E => ob_build 24 _ rfl (pm4 (E.new (v := (B s_9)) 70 0 (by kernel_rfl) rfl) (E.new (v := (B s_11)) 71 1 (by kernel_rfl) rfl) (E.new (v := (B s_13)) 72 2 (by kernel_rfl) rfl) (E.new (v := (B s_15)) 73 3 (by kernel_rfl) rfl)) (bd24_0i_1i_2i_3i _ _ _ _ w'))
    (Obs.stk (fun a' w' E hr => ob_storea 24 (.tmp 4) (.tmp 74) rfl (E.old 4 (by kernel_rfl)) (E.new (v := (.agg #[B s_9, B s_11, B s_13, B s_15])) 74 4 (by kernel_rfl) rfl) rfl hr (by kernel_rfl) (Nat.le_of_ble_eq_true rfl) (by kernel_rfl) rfl)
    Obs.nil)))))) ?_
  intro bs w9 aZ haZ F
  have eZ : aZ = ({ tmps := #[(.agg #[B a0, B a1, B a2, B a3]), (.agg #[B b0, B b1, B b2, B b3]), (PT w.heap.size), (PT (w.heap.size + 1)), (PT (w.heap.size + 1 + 1)), (B s_9), (B c_14), (B s_11), (B s_13), (B s_15), (.tuple #[(B s_0), (B c_1)]), (PT w.heap.size), (B a0), (PT (w.heap.size + 1)), (B b0), (.tuple #[(B s_0), (B c_1)]), (B s_0), (B c_1), (.tuple #[(B s_2), (B c_3)]), (PO w.heap.size 1), (B a1), (PO (w.heap.size + 1) 1), (B b1), (B c_1), (.tuple #[(B s_2), (B c_3)]), (B s_2), (B c_3), (.tuple #[(B s_4), (B c_5)]), (PO w.heap.size 2), (B a2), (PO (w.heap.size + 1) 2), (B b2), (B c_3), (.tuple #[(B s_4), (B c_5)]), (B s_4), (B c_5), (.tuple #[(B s_6), (B c_7)]), (PO w.heap.size 3), (B a3), (PO (w.heap.size + 1) 3), (B b3), (B c_5), (.tuple #[(B s_6), (B c_7)]), (B s_6), (B c_7), (.tuple #[(B s_9), (B c_10)]), (B s_0), (B c_7), (B u_8), (.tuple #[(B s_9), (B c_10)]), (B s_9), (B c_10), (.tuple #[(B s_11), (B c_12)]), (B s_2), (B c_10), (.tuple #[(B s_11), (B c_12)]), (B s_11), (B c_12), (.tuple #[(B s_13), (B c_14)]), (B s_4), (B c_12), (.tuple #[(B s_13), (B c_14)]), (B s_13), (B c_14), (.tuple #[(B s_15), (B c_16)]), (B s_6), (B c_14), (.tuple #[(B s_15), (B c_16)]), (B s_15), (B c_16), (B s_9), (B s_11), (B s_13), (B s_15), (.agg #[B s_9, B s_11, B s_13, B s_15])], defers := [] } : Act) := haZ.trans (by kernel_rfl)
  subst eZ
  clear haZ
  replace RR : Hid (RB w w9 [(w.heap.size + 1 + 1, #[B s_9, B s_11, B s_13, B s_15]), (w.heap.size + 1, #[B b0, B b1, B b2, B b3]), (w.heap.size, #[B a0, B a1, B a2, B a3])]) := ⟨F.bw, (RowsAt.cons (F.sk 5 rfl) (RowsAt.cons (F.row 1 rfl) (RowsAt.cons (F.row 0 rfl) RowsAt.nil)))⟩
  clear F qT q0 q1 q2
  go_wp2
  exact bodyPost_ret (v := (.agg #[B s_9, B s_11, B s_13, B s_15])) (resA (p := 4) (ty := 24) rfl (g := w.heap.size + 1 + 1) rfl (RR.out.at 0 rfl) Tryd.underlying24 rfl (by kernel_rfl)) rfl ⟨rfl, RR.out.b⟩
set_option maxRecDepth 100000 in
set_option maxHeartbeats 4000000 in
theorem folded_raw (a0 a1 a2 a3 b0 b1 b2 b3 : Nat) {h_0 l_1 h_2 l_3 h_4 l_5 h_6 l_7 h_8 l_9 s_10 c_11 s_12 c_13 s_14 c_15 q_16 q_17 q_18 q_19 : Nat}
    (c1 : Does 85 #[(B a0), (.int .u64 4294968273), (B b0), (.int .u64 0)] (.tuple #[(B h_0), (B l_1)]))
    (c2 : Does 85 #[(B a1), (.int .u64 4294968273), (B b1), (B h_0)] (.tuple #[(B h_2), (B l_3)]))
    (c3 : Does 85 #[(B a2), (.int .u64 4294968273), (B b2), (B h_2)] (.tuple #[(B h_4), (B l_5)]))
    (c4 : Does 85 #[(B a3), (.int .u64 4294968273), (B b3), (B h_4)] (.tuple #[(B h_6), (B l_7)]))
    (c5 : Does 85 #[(B h_6), (.int .u64 4294968273), (B l_1), (.int .u64 0)] (.tuple #[(B h_8), (B l_9)]))
    (c6 : XDoes 44 #[(B l_3), (B h_8), (.int .u64 0)] (.tuple #[(B s_10), (B c_11)]))
    (c7 : XDoes 44 #[(B l_5), (.int .u64 0), (B c_11)] (.tuple #[(B s_12), (B c_13)]))
    (c8 : XDoes 44 #[(B l_7), (.int .u64 0), (B c_13)] (.tuple #[(B s_14), (B c_15)]))
    (c9 : Does 92 #[(B l_9), (B s_10), (B s_12), (B s_14), (B c_15)] (.agg #[B q_16, B q_17, B q_18, B q_19]))
    (w : World) : Calls Tryd.prog 86 #[(.agg #[B a0, B a1, B a2, B a3]), (.agg #[B b0, B b1, B b2, B b3])] w fun e w' => e = .returned (.agg #[B q_16, B q_17, B q_18, B q_19]) ∧ Below w.heap.size w w' := by
  go_enter Tryd.func86, Tryd.ntmps86
  go_upto_region 1 with fail
  refine name_world _ ?_
  intro wF hF0
  have RR : Hid (RB w wF [(w.heap.size + 1 + 1, Zr), (w.heap.size + 1, #[B b0, B b1, B b2, B b3]), (w.heap.size, #[B a0, B a1, B a2, B a3])]) := by rw [hF0]; exact (rbN (rbN (rbN (rb0 w) (by simp)) (by simp)) (by simp))
  clear hF0
  obtain ⟨q2, q1, q0, qT⟩ := RR.out.r.lts
  refine wp_region_told (by kernel_rfl) (by kernel_rfl) (by kernel_rfl) [(w.heap.size, #[B a0, B a1, B a2, B a3]), (w.heap.size + 1, #[B b0, B b1, B b2, B b3]), (w.heap.size + 1 + 1, Zr)]
    [sV (PT w.heap.size),
     sV (B a0),
     sV (PT (w.heap.size + 1)),
     sV (B b0),
     sV (.tuple #[(B h_0), (B l_1)]),
     sV (.tuple #[(B h_0), (B l_1)]),
     sV (B h_0),
     sV (B l_1),
     sV (B h_0),
     sV (B l_1)]
    (by kernel_rfl) RR.out.b (RowsAt.cons (RR.out.at 2 rfl) (RowsAt.cons (RR.out.at 1 rfl) (RowsAt.cons (RR.out.at 0 rfl) RowsAt.nil))) (StOk.of [] rfl StM.nil)
    (Obs.val (fun a' w' E => ob_indexAddr 24 (.tmp 2) (.const (.int .i64 0)) rfl (E.old 2 (by kernel_rfl)) (evc a' (.int .i64 0)) (ix24_0 _ _ w'))
    (Obs.val (fun a' w' E => ob_load1 22 (.tmp 11) rfl (E.new (v := (PT w.heap.size)) 11 0 (by kernel_rfl) rfl) (E.row (g := w.heap.size) (c := #[B a0, B a1, B a2, B a3]) 0 rfl) Tryd.underlying22 rfl rfl)
    (Obs.val (fun a' w' E => ob_indexAddr 24 (.tmp 3) (.const (.int .i64 0)) rfl (E.old 3 (by kernel_rfl)) (evc a' (.int .i64 0)) (ix24_0 _ _ w'))
    (Obs.val (fun a' w' E => ob_load1 22 (.tmp 13) rfl (E.new (v := (PT (w.heap.size + 1))) 13 2 (by kernel_rfl) rfl) (E.row (g := w.heap.size + 1) (c := #[B b0, B b1, B b2, B b3]) 1 rfl) Tryd.underlying22 rfl rfl)
    (Obs.val (fun a' w' E => ob_fcall 85 _ _ rfl (am4 (E.new (v := (B a0)) 12 1 (by kernel_rfl) rfl) (evc a' (.int .u64 4294968273)) (E.new (v := (B b0)) 14 3 (by kernel_rfl) rfl) (evc a' (.int .u64 0))) (fc85 _ _) (c1.out w'))
    (Obs.val (fun a' w' E => ob_move (.tmp 15) rfl (E.new (v := (.tuple #[(B h_0), (B l_1)])) 15 4 (by kernel_rfl) rfl))
    (Obs.val (fun a' w' E => ob_extract (.tmp 10) 0 rfl (E.new (v := (.tuple #[(B h_0), (B l_1)])) 10 5 (by kernel_rfl) rfl) rfl)
    (Obs.val (fun a' w' E => ob_extract (.tmp 10) 1 rfl (E.new (v := (.tuple #[(B h_0), (B l_1)])) 10 5 (by kernel_rfl) rfl) rfl)
    (Obs.val (fun a' w' E => ob_assign (.tmp 16) rfl (E.new (v := (B h_0)) 16 6 (by kernel_rfl) rfl))
    (Obs.val (fun a' w' E => ob_assign (.tmp 17) rfl (E.new (v := (B l_1)) 17 7 (by kernel_rfl) rfl))
    Obs.nil)))))))))) ?_
  intro bs w1 aZ haZ F
  have eZ : aZ = ({ tmps := #[(.agg #[B a0, B a1, B a2, B a3]), (.agg #[B b0, B b1, B b2, B b3]), (PT w.heap.size), (PT (w.heap.size + 1)), (PT (w.heap.size + 1 + 1)), (B h_0), (B l_1), undef, undef, undef, (.tuple #[(B h_0), (B l_1)]), (PT w.heap.size), (B a0), (PT (w.heap.size + 1)), (B b0), (.tuple #[(B h_0), (B l_1)]), (B h_0), (B l_1), undef, undef, undef, undef, undef, undef, undef, undef, undef, undef, undef, undef, undef, undef, undef, undef, undef, undef, undef, undef, undef, undef, undef, undef, undef, undef, undef, undef, undef, undef, undef, undef, undef, undef, undef, undef, undef, undef, undef, undef, undef, undef, undef, undef, undef, undef, undef, undef, undef, undef, undef, undef, undef, undef, undef, undef, undef], defers := [] } : Act) := haZ.trans (by kernel_rfl)
  subst eZ
  clear haZ
  replace RR : Hid (RB w w1 [(w.heap.size + 1 + 1, Zr), (w.heap.size + 1, #[B b0, B b1, B b2, B b3]), (w.heap.size, #[B a0, B a1, B a2, B a3])]) := ⟨F.bw, (RowsAt.cons (F.row 2 rfl) (RowsAt.cons (F.row 1 rfl) (RowsAt.cons (F.row 0 rfl) RowsAt.nil)))⟩
  clear F qT q0 q1 q2
  clear wF
  go_upto_region 2 with fail
  obtain ⟨q2, q1, q0, qT⟩ := RR.out.r.lts
  refine wp_region_told (by kernel_rfl) (by kernel_rfl) (by kernel_rfl) [(w.heap.size, #[B a0, B a1, B a2, B a3]), (w.heap.size + 1, #[B b0, B b1, B b2, B b3]), (w.heap.size + 1 + 1, Zr)]
    [sV (PO w.heap.size 1),
     sV (B a1),
     sV (PO (w.heap.size + 1) 1),
     sV (B b1),
     sV (B h_0),
     sV (.tuple #[(B h_2), (B l_3)]),
     sV (.tuple #[(B h_2), (B l_3)]),
     sV (B h_2),
     sV (B l_3),
     sV (B h_2),
     sV (B l_3)]
    (by kernel_rfl) RR.out.b (RowsAt.cons (RR.out.at 2 rfl) (RowsAt.cons (RR.out.at 1 rfl) (RowsAt.cons (RR.out.at 0 rfl) RowsAt.nil))) (StOk.of [] rfl StM.nil)
    (Obs.val (fun a' w' E => ob_indexAddr 24 (.tmp 2) (.const (.int .i64 1)) rfl (E.old 2 (by kernel_rfl)) (evc a' (.int .i64 1)) (ix24_1 _ _ w'))
    (Obs.val (fun a' w' E => ob_load1 22 (.tmp 19) rfl (E.new (v := (PO w.heap.size 1)) 19 0 (by kernel_rfl) rfl) (E.row (g := w.heap.size) (c := #[B a0, B a1, B a2, B a3]) 0 rfl) Tryd.underlying22 rfl rfl)
    (Obs.val (fun a' w' E => ob_indexAddr 24 (.tmp 3) (.const (.int .i64 1)) rfl (E.old 3 (by kernel_rfl)) (evc a' (.int .i64 1)) (ix24_1 _ _ w'))
    (Obs.val (fun a' w' E => ob_load1 22 (.tmp 21) rfl (E.new (v := (PO (w.heap.size + 1) 1)) 21 2 (by kernel_rfl) rfl) (E.row (g := w.heap.size + 1) (c := #[B b0, B b1, B b2, B b3]) 1 rfl) Tryd.underlying22 rfl rfl)
    (Obs.val (fun a' w' E => ob_move (.tmp 5) rfl (E.olds 5 9 (by kernel_rfl) (by kernel_rfl)))
    (Obs.val (fun a' w' E => ob_fcall 85 _ _ rfl (am4 (E.new (v := (B a1)) 20 1 (by kernel_rfl) rfl) (evc a' (.int .u64 4294968273)) (E.new (v := (B b1)) 22 3 (by kernel_rfl) rfl) (E.new (v := (B h_0)) 23 4 (by kernel_rfl) rfl)) (fc85 _ _) (c2.out w'))
    (Obs.val (fun a' w' E => ob_move (.tmp 24) rfl (E.new (v := (.tuple #[(B h_2), (B l_3)])) 24 5 (by kernel_rfl) rfl))
    (Obs.val (fun a' w' E => ob_extract (.tmp 18) 0 rfl (E.new (v := (.tuple #[(B h_2), (B l_3)])) 18 6 (by kernel_rfl) rfl) rfl)
    (Obs.val (fun a' w' E => ob_extract (.tmp 18) 1 rfl (E.new (v := (.tuple #[(B h_2), (B l_3)])) 18 6 (by kernel_rfl) rfl) rfl)
    (Obs.val (fun a' w' E => ob_assign (.tmp 25) rfl (E.new (v := (B h_2)) 25 7 (by kernel_rfl) rfl))
    (Obs.val (fun a' w' E => ob_assign (.tmp 26) rfl (E.new (v := (B l_3)) 26 8 (by kernel_rfl) rfl))
    Obs.nil))))))))))) ?_
  intro bs w2 aZ haZ F
  have eZ : aZ = ({ tmps := #[(.agg #[B a0, B a1, B a2, B a3]), (.agg #[B b0, B b1, B b2, B b3]), (PT w.heap.size), (PT (w.heap.size + 1)), (PT (w.heap.size + 1 + 1)), (B h_2), (B l_1), (B l_3), undef, undef, (.tuple #[(B h_0), (B l_1)]), (PT w.heap.size), (B a0), (PT (w.heap.size + 1)), (B b0), (.tuple #[(B h_0), (B l_1)]), (B h_0), (B l_1), (.tuple #[(B h_2), (B l_3)]), (PO w.heap.size 1), (B a1), (PO (w.heap.size + 1) 1), (B b1), (B h_0), (.tuple #[(B h_2), (B l_3)]), (B h_2), (B l_3), undef, undef, undef, undef, undef, undef, undef, undef, undef, undef, undef, undef, undef, undef, undef, undef, undef, undef, undef, undef, undef, undef, undef, undef, undef, undef, undef, undef, undef, undef, undef, undef, undef, undef, undef, undef, undef, undef, undef, undef, undef, undef, undef, undef, undef, undef, undef, undef], defers := [] } : Act) := haZ.trans (by kernel_rfl)
  subst eZ
  clear haZ
  replace RR : Hid (RB w w2 [(w.heap.size + 1 + 1, Zr), (w.heap.size + 1, #[B b0, B b1, B b2, B b3]), (w.heap.size, #[B a0, B a1, B a2, B a3])]) := ⟨F.bw, (RowsAt.cons (F.row 2 rfl) (RowsAt.cons (F.row 1 rfl) (RowsAt.cons (F.row 0 rfl) RowsAt.nil)))⟩
  clear F qT q0 q1 q2
  go_upto_region 3 with fail
  obtain ⟨q2, q1, q0, qT⟩ := RR.out.r.lts
  refine wp_region_told (by kernel_rfl) (by kernel_rfl) (by kernel_rfl) [(w.heap.size, #[B a0, B a1, B a2, B a3]), (w.heap.size + 1, #[B b0, B b1, B b2, B b3]), (w.heap.size + 1 + 1, Zr)]
    [sV (PO w.heap.size 2),
     sV (B a2),
     sV (PO (w.heap.size + 1) 2),
     sV (B b2),
     sV (B h_2),
     sV (.tuple #[(B h_4), (B l_5)]),
     sV (.tuple #[(B h_4), (B l_5)]),
     sV (B h_4),
     sV (B l_5),
     sV (B h_4),
     sV (B l_5)]
    (by kernel_rfl) RR.out.b (RowsAt.cons (RR.out.at 2 rfl) (RowsAt.cons (RR.out.at 1 rfl) (RowsAt.cons (RR.out.at 0 rfl) RowsAt.nil))) (StOk.of [] rfl StM.nil)
    (Obs.val (fun a' w' E => ob_indexAddr 24 (.tmp 2) (.const (.int .i64 2)) rfl (E.old 2 (by kernel_rfl)) (evc a' (.int .i64 2)) (ix24_2 _ _ w'))
    (Obs.val (fun a' w' E => ob_load1 22 (.tmp 28) rfl (E.new (v := (PO w.heap.size 2)) 28 0 (by kernel_rfl) rfl) (E.row (g := w.heap.size) (c := #[B a0, B a1, B a2, B a3]) 0 rfl) Tryd.underlying22 rfl rfl)
    (Obs.val (fun a' w' E => ob_indexAddr 24 (.tmp 3) (.const (.int .i64 2)) rfl (E.old 3 (by kernel_rfl)) (evc a' (.int .i64 2)) (ix24_2 _ _ w'))
    (Obs.val (fun a' w' E => ob_load1 22 (.tmp 30) rfl (E.new (v := (PO (w.heap.size + 1) 2)) 30 2 (by kernel_rfl) rfl) (E.row (g := w.heap.size + 1) (c := #[B b0, B b1, B b2, B b3]) 1 rfl) Tryd.underlying22 rfl rfl)
    (Obs.val (fun a' w' E => ob_move (.tmp 5) rfl (E.olds 5 9 (by kernel_rfl) (by kernel_rfl)))
    (Obs.val (fun a' w' E => ob_fcall 85 _ _ rfl (am4 (E.new (v := (B a2)) 29 1 (by kernel_rfl) rfl) (evc a' (.int .u64 4294968273)) (E.new (v := (B b2)) 31 3 (by kernel_rfl) rfl) (E.new (v := (B h_2)) 32 4 (by kernel_rfl) rfl)) (fc85 _ _) (c3.out w'))
    (Obs.val (fun a' w' E => ob_move (.tmp 33) rfl (E.new (v := (.tuple #[(B h_4), (B l_5)])) 33 5 (by kernel_rfl) rfl))
    (Obs.val (fun a' w' E => ob_extract (.tmp 27) 0 rfl (E.new (v := (.tuple #[(B h_4), (B l_5)])) 27 6 (by kernel_rfl) rfl) rfl)
    (Obs.val (fun a' w' E => ob_extract (.tmp 27) 1 rfl (E.new (v := (.tuple #[(B h_4), (B l_5)])) 27 6 (by kernel_rfl) rfl) rfl)
    (Obs.val (fun a' w' E => ob_assign (.tmp 34) rfl (E.new (v := (B h_4)) 34 7 (by kernel_rfl) rfl))
    (Obs.val (fun a' w' E => ob_assign (.tmp 35) rfl (E.new (v := (B l_5)) 35 8 (by kernel_rfl) rfl))
    Obs.nil))))))))))) ?_
  intro bs w3 aZ haZ F
  have eZ : aZ = ({ tmps := #[(.agg #[B a0, B a1, B a2, B a3]), (.agg #[B b0, B b1, B b2, B b3]), (PT w.heap.size), (PT (w.heap.size + 1)), (PT (w.heap.size + 1 + 1)), (B h_4), (B l_1), (B l_3), (B l_5), undef, (.tuple #[(B h_0), (B l_1)]), (PT w.heap.size), (B a0), (PT (w.heap.size + 1)), (B b0), (.tuple #[(B h_0), (B l_1)]), (B h_0), (B l_1), (.tuple #[(B h_2), (B l_3)]), (PO w.heap.size 1), (B a1), (PO (w.heap.size + 1) 1), (B b1), (B h_0), (.tuple #[(B h_2), (B l_3)]), (B h_2), (B l_3), (.tuple #[(B h_4), (B l_5)]), (PO w.heap.size 2), (B a2), (PO (w.heap.size + 1) 2), (B b2), (B h_2), (.tuple #[(B h_4), (B l_5)]), (B h_4), (B l_5), undef, undef, undef, undef, undef, undef, undef, undef, undef, undef, undef, undef, undef, undef, undef, undef, undef, undef, undef, undef, undef, undef, undef, undef, undef, undef, undef, undef, undef, undef, undef, undef, undef, undef, undef, undef, undef, undef, undef], defers := [] } : Act) := haZ.trans (by kernel_rfl)
  subst eZ
  clear haZ
  replace RR : Hid (RB w w3 [(w.heap.size + 1 + 1, Zr), (w.heap.size + 1, #[B b0, B b1, B b2, B b3]), (w.heap.size, #[B a0, B a1, B a2, B a3])]) := ⟨F.bw, (RowsAt.cons (F.row 2 rfl) (RowsAt.cons (F.row 1 rfl) (RowsAt.cons (F.row 0 rfl) RowsAt.nil)))⟩
  clear F qT q0 q1 q2
  go_upto_region 4 with fail
  obtain ⟨q2, q1, q0, qT⟩ := RR.out.r.lts
  refine wp_region_told (by kernel_rfl) (by kernel_rfl) (by kernel_rfl) [(w.heap.size, #[B a0, B a1, B a2, B a3]), (w.heap.size + 1, #[B b0, B b1, B b2, B b3]), (w.heap.size + 1 + 1, Zr)]
    [sV (PO w.heap.size 3),
     sV (B a3),
     sV (PO (w.heap.size + 1) 3),
     sV (B b3),
     sV (B h_4),
     sV (.tuple #[(B h_6), (B l_7)]),
     sV (.tuple #[(B h_6), (B l_7)]),
     sV (B h_6),
     sV (B l_7),
     sV (B h_6),
     sV (B l_7)]
    (by kernel_rfl) RR.out.b (RowsAt.cons (RR.out.at 2 rfl) (RowsAt.cons (RR.out.at 1 rfl) (RowsAt.cons (RR.out.at 0 rfl) RowsAt.nil))) (StOk.of [] rfl StM.nil)
    (Obs.val (fun a' w' E => ob_indexAddr 24 (.tmp 2) (.const (.int .i64 3)) rfl (E.old 2 (by kernel_rfl)) (evc a' (.int .i64 3)) (ix24_3 _ _ w'))
    (Obs.val (fun a' w' E => ob_load1 22 (.tmp 37) rfl (E.new (v := (PO w.heap.size 3)) 37 0 (by kernel_rfl) rfl) (E.row (g := w.heap.size) (c := #[B a0, B a1, B a2, B a3]) 0 rfl) Tryd.underlying22 rfl rfl)
    (Obs.val (fun a' w' E => ob_indexAddr 24 (.tmp 3) (.const (.int .i64 3)) rfl (E.old 3 (by kernel_rfl)) (evc a' (.int .i64 3)) (ix24_3 _ _ w'))
    (Obs.val (fun a' w' E => ob_load1 22 (.tmp 39) rfl (E.new (v := (PO (w.heap.size + 1) 3)) 39 2 (by kernel_rfl) rfl) (E.row (g := w.heap.size + 1) (c := #[B b0, B b1, B b2, B b3]) 1 rfl) Tryd.underlying22 rfl rfl)
    (Obs.val (fun a' w' E => ob_move (.tmp 5) rfl (E.olds 5 9 (by kernel_rfl) (by kernel_rfl)))
    (Obs.val (fun a' w' E => ob_fcall 85 _ _ rfl (am4 (E.new (v := (B a3)) 38 1 (by kernel_rfl) rfl) (evc a' (.int .u64 4294968273)) (E.new (v := (B b3)) 40 3 (by kernel_rfl) rfl) (E.new (v := (B h_4)) 41 4 (by kernel_rfl) rfl)) (fc85 _ _) (c4.out w'))
    (Obs.val (fun a' w' E => ob_move (.tmp 42) rfl (E.new (v := (.tuple #[(B h_6), (B l_7)])) 42 5 (by kernel_rfl) rfl))
    (Obs.val (fun a' w' E => ob_extract (.tmp 36) 0 rfl (E.new (v := (.tuple #[(B h_6), (B l_7)])) 36 6 (by kernel_rfl) rfl) rfl)
    (Obs.val (fun a' w' E => ob_extract (.tmp 36) 1 rfl (E.new (v := (.tuple #[(B h_6), (B l_7)])) 36 6 (by kernel_rfl) rfl) rfl)
    (Obs.val (fun a' w' E => ob_assign (.tmp 43) rfl (E.new (v := (B h_6)) 43 7 (by kernel_rfl) rfl))
    (Obs.val (fun a' w' E => ob_assign (.tmp 44) rfl (E.new (v := (B l_7)) 44 8 (by kernel_rfl) rfl))
    Obs.nil))))))))))) ?_
  intro bs w4 aZ haZ F
  have eZ : aZ = ({ tmps := #[(.agg #[B a0, B a1, B a2, B a3]), (.agg #[B b0, B b1, B b2, B b3]), (PT w.heap.size), (PT (w.heap.size + 1)), (PT (w.heap.size + 1 + 1)), (B h_6), (B l_1), (B l_3), (B l_5), (B l_7), (.tuple #[(B h_0), (B l_1)]), (PT w.heap.size), (B a0), (PT (w.heap.size + 1)), (B b0), (.tuple #[(B h_0), (B l_1)]), (B h_0), (B l_1), (.tuple #[(B h_2), (B l_3)]), (PO w.heap.size 1), (B a1), (PO (w.heap.size + 1) 1), (B b1), (B h_0), (.tuple #[(B h_2), (B l_3)]), (B h_2), (B l_3), (.tuple #[(B h_4), (B l_5)]), (PO w.heap.size 2), (B a2), (PO (w.heap.size + 1) 2), (B b2), (B h_2), (.tuple #[(B h_4), (B l_5)]), (B h_4), (B l_5), (.tuple #[(B h_6), (B l_7)]), (PO w.heap.size 3), (B a3), (PO (w.heap.size + 1) 3), (B b3), (B h_4), (.tuple #[(B h_6), (B l_7)]), (B h_6), (B l_7), undef, undef, undef, undef, undef, undef, undef, undef, undef, undef, undef, undef, undef, undef, undef, undef, undef, undef, undef, undef, undef, undef, undef, undef, undef, undef, undef, undef, undef, undef], defers := [] } : Act) := haZ.trans (by kernel_rfl)
  subst eZ
  clear haZ
  replace RR : Hid (RB w w4 [(w.heap.size + 1 + 1, Zr), (w.heap.size + 1, #[B b0, B b1, B b2, B b3]), (w.heap.size, #[B a0, B a1, B a2, B a3])]) := ⟨F.bw, (RowsAt.cons (F.row 2 rfl) (RowsAt.cons (F.row 1 rfl) (RowsAt.cons (F.row 0 rfl) RowsAt.nil)))⟩
  clear F qT q0 q1 q2
  go_upto_region 5 with fail
  obtain ⟨q2, q1, q0, qT⟩ := RR.out.r.lts
  refine wp_region_told (by kernel_rfl) (by kernel_rfl) (by kernel_rfl) [(w.heap.size, #[B a0, B a1, B a2, B a3]), (w.heap.size + 1, #[B b0, B b1, B b2, B b3]), (w.heap.size + 1 + 1, Zr)]
    [sV (B h_6),
     sV (B l_1),
     sV (.tuple #[(B h_8), (B l_9)]),
     sV (.tuple #[(B h_8), (B l_9)]),
     sV (B h_8),
     sV (B l_9),
     sV (B h_8),
     sV (B l_9)]
    (by kernel_rfl) RR.out.b (RowsAt.cons (RR.out.at 2 rfl) (RowsAt.cons (RR.out.at 1 rfl) (RowsAt.cons (RR.out.at 0 rfl) RowsAt.nil))) (StOk.of [] rfl StM.nil)
    (Obs.val (fun a' w' E => ob_move (.tmp 5) rfl (E.olds 5 6 (by kernel_rfl) (by kernel_rfl)))
    (Obs.val (fun a' w' E => ob_move (.tmp 6) rfl (E.olds 6 7 (by kernel_rfl) (by kernel_rfl)))
    (Obs.val (fun a' w' E => ob_fcall 85 _ _ rfl (am4 (E.new (v := (B h_6)) 46 0 (by kernel_rfl) rfl) (evc a' (.int .u64 4294968273)) (E.new (v := (B l_1)) 47 1 (by kernel_rfl) rfl) (evc a' (.int .u64 0))) (fc85 _ _) (c5.out w'))
    (Obs.val (fun a' w' E => ob_move (.tmp 48) rfl (E.new (v := (.tuple #[(B h_8), (B l_9)])) 48 2 (by kernel_rfl) rfl))
    (Obs.val (fun a' w' E => ob_extract (.tmp 45) 0 rfl (E.new (v := (.tuple #[(B h_8), (B l_9)])) 45 3 (by kernel_rfl) rfl) rfl)
    (Obs.val (fun a' w' E => ob_extract (.tmp 45) 1 rfl (E.new (v := (.tuple #[(B h_8), (B l_9)])) 45 3 (by kernel_rfl) rfl) rfl)
    (Obs.val (fun a' w' E => ob_assign (.tmp 49) rfl (E.new (v := (B h_8)) 49 4 (by kernel_rfl) rfl))
    (Obs.val (fun a' w' E => ob_assign (.tmp 50) rfl (E.new (v := (B l_9)) 50 5 (by kernel_rfl) rfl))
    Obs.nil)))))))) ?_
  intro bs w5 aZ haZ F
  have eZ : aZ = ({ tmps := #[(.agg #[B a0, B a1, B a2, B a3]), (.agg #[B b0, B b1, B b2, B b3]), (PT w.heap.size), (PT (w.heap.size + 1)), (PT (w.heap.size + 1 + 1)), (B h_8), (B l_9), (B l_3), (B l_5), (B l_7), (.tuple #[(B h_0), (B l_1)]), (PT w.heap.size), (B a0), (PT (w.heap.size + 1)), (B b0), (.tuple #[(B h_0), (B l_1)]), (B h_0), (B l_1), (.tuple #[(B h_2), (B l_3)]), (PO w.heap.size 1), (B a1), (PO (w.heap.size + 1) 1), (B b1), (B h_0), (.tuple #[(B h_2), (B l_3)]), (B h_2), (B l_3), (.tuple #[(B h_4), (B l_5)]), (PO w.heap.size 2), (B a2), (PO (w.heap.size + 1) 2), (B b2), (B h_2), (.tuple #[(B h_4), (B l_5)]), (B h_4), (B l_5), (.tuple #[(B h_6), (B l_7)]), (PO w.heap.size 3), (B a3), (PO (w.heap.size + 1) 3), (B b3), (B h_4), (.tuple #[(B h_6), (B l_7)]), (B h_6), (B l_7), (.tuple #[(B h_8), (B l_9)]), (B h_6), (B l_1), (.tuple #[(B h_8), (B l_9)]), (B h_8), (B l_9), undef, undef, undef, undef, undef, undef, undef, undef, undef, undef, undef, undef, undef, undef, undef, undef, undef, undef, undef, undef, undef, undef, undef, undef], defers := [] } : Act) := haZ.trans (by kernel_rfl)
  subst eZ
  clear haZ
  replace RR : Hid (RB w w5 [(w.heap.size + 1 + 1, Zr), (w.heap.size + 1, #[B b0, B b1, B b2, B b3]), (w.heap.size, #[B a0, B a1, B a2, B a3])]) := ⟨F.bw, (RowsAt.cons (F.row 2 rfl) (RowsAt.cons (F.row 1 rfl) (RowsAt.cons (F.row 0 rfl) RowsAt.nil)))⟩
  clear F qT q0 q1 q2
  go_upto_region 6 with fail
  obtain ⟨q2, q1, q0, qT⟩ := RR.out.r.lts
  refine wp_region_told (by kernel_rfl) (by kernel_rfl) (by kernel_rfl) [(w.heap.size, #[B a0, B a1, B a2, B a3]), (w.heap.size + 1, #[B b0, B b1, B b2, B b3]), (w.heap.size + 1 + 1, Zr)]
    [sV (B l_3),
     sV (B h_8),
     sV (.tuple #[(B s_10), (B c_11)]),
     sV (.tuple #[(B s_10), (B c_11)]),
     sV (B s_10),
     sV (B c_11),
     sV (B s_10),
     sV (B c_11)]
    (by kernel_rfl) RR.out.b (RowsAt.cons (RR.out.at 2 rfl) (RowsAt.cons (RR.out.at 1 rfl) (RowsAt.cons (RR.out.at 0 rfl) RowsAt.nil))) (StOk.of [] rfl StM.nil)
    (Obs.val (fun a' w' E => ob_move (.tmp 7) rfl (E.olds 7 6 (by kernel_rfl) (by kernel_rfl)))
    (Obs.val (fun a' w' E => ob_move (.tmp 5) rfl (E.olds 5 7 (by kernel_rfl) (by kernel_rfl)))
    (Obs.val (fun a' w' E => ob_xcall 44 _ _ rfl (am3 (E.new (v := (B l_3)) 52 0 (by kernel_rfl) rfl) (E.new (v := (B h_8)) 53 1 (by kernel_rfl) rfl) (evc a' (.int .u64 0))) (xc44 _ _) (c6.out w'))
    (Obs.val (fun a' w' E => ob_move (.tmp 54) rfl (E.new (v := (.tuple #[(B s_10), (B c_11)])) 54 2 (by kernel_rfl) rfl))
    (Obs.val (fun a' w' E => ob_extract (.tmp 51) 0 rfl (E.new (v := (.tuple #[(B s_10), (B c_11)])) 51 3 (by kernel_rfl) rfl) rfl)
    (Obs.val (fun a' w' E => ob_extract (.tmp 51) 1 rfl (E.new (v := (.tuple #[(B s_10), (B c_11)])) 51 3 (by kernel_rfl) rfl) rfl)
    (Obs.val (fun a' w' E => ob_assign (.tmp 55) rfl (E.new (v := (B s_10)) 55 4 (by kernel_rfl) rfl))
    (Obs.val (fun a' w' E => ob_assign (.tmp 56) rfl (E.new (v := (B c_11)) 56 5 (by kernel_rfl) rfl))
    Obs.nil)))))))) ?_
  intro bs w6 aZ haZ F
  have eZ : aZ = ({ tmps := #[(.agg #[B a0, B a1, B a2, B a3]), (.agg #[B b0, B b1, B b2, B b3]), (PT w.heap.size), (PT (w.heap.size + 1)), (PT (w.heap.size + 1 + 1)), (B c_11), (B l_9), (B s_10), (B l_5), (B l_7), (.tuple #[(B h_0), (B l_1)]), (PT w.heap.size), (B a0), (PT (w.heap.size + 1)), (B b0), (.tuple #[(B h_0), (B l_1)]), (B h_0), (B l_1), (.tuple #[(B h_2), (B l_3)]), (PO w.heap.size 1), (B a1), (PO (w.heap.size + 1) 1), (B b1), (B h_0), (.tuple #[(B h_2), (B l_3)]), (B h_2), (B l_3), (.tuple #[(B h_4), (B l_5)]), (PO w.heap.size 2), (B a2), (PO (w.heap.size + 1) 2), (B b2), (B h_2), (.tuple #[(B h_4), (B l_5)]), (B h_4), (B l_5), (.tuple #[(B h_6), (B l_7)]), (PO w.heap.size 3), (B a3), (PO (w.heap.size + 1) 3), (B b3), (B h_4), (.tuple #[(B h_6), (B l_7)]), (B h_6), (B l_7), (.tuple #[(B h_8), (B l_9)]), (B h_6), (B l_1), (.tuple #[(B h_8), (B l_9)]), (B h_8), (B l_9), (.tuple #[(B s_10), (B c_11)]), (B l_3), (B h_8), (.tuple #[(B s_10), (B c_11)]), (B s_10), (B c_11), undef, undef, undef, undef, undef, undef, undef, undef, undef, undef, undef, undef, undef, undef, undef, undef, undef, undef], defers := [] } : Act) := haZ.trans (by kernel_rfl)
  subst eZ
  clear haZ
  replace RR : Hid (RB w w6 [(w.heap.size + 1 + 1, Zr), (w.heap.size + 1, #[B b0, B b1, B b2, B b3]), (w.heap.size, #[B a0, B a1, B a2, B a3])]) := ⟨F.bw, (RowsAt.cons (F.row 2 rfl) (RowsAt.cons (F.row 1 rfl) (RowsAt.cons (F.row 0 rfl) RowsAt.nil)))⟩
  clear F qT q0 q1 q2
  go_upto_region 7 with fail
  obtain ⟨q2, q1, q0, qT⟩ := RR.out.r.lts
  refine wp_region_told (by kernel_rfl) (by kernel_rfl) (by kernel_rfl) [(w.heap.size, #[B a0, B a1, B a2, B a3]), (w.heap.size + 1, #[B b0, B b1, B b2, B b3]), (w.heap.size + 1 + 1, Zr)]
    [sV (B l_5),
     sV (B c_11),
     sV (.tuple #[(B s_12), (B c_13)]),
     sV (.tuple #[(B s_12), (B c_13)]),
     sV (B s_12),
     sV (B c_13),
     sV (B s_12),
     sV (B c_13)]
    (by kernel_rfl) RR.out.b (RowsAt.cons (RR.out.at 2 rfl) (RowsAt.cons (RR.out.at 1 rfl) (RowsAt.cons (RR.out.at 0 rfl) RowsAt.nil))) (StOk.of [] rfl StM.nil)
    (Obs.val (fun a' w' E => ob_move (.tmp 8) rfl (E.olds 8 6 (by kernel_rfl) (by kernel_rfl)))
    (Obs.val (fun a' w' E => ob_move (.tmp 5) rfl (E.olds 5 7 (by kernel_rfl) (by kernel_rfl)))
    (Obs.val (fun a' w' E => ob_xcall 44 _ _ rfl (am3 (E.new (v := (B l_5)) 58 0 (by kernel_rfl) rfl) (evc a' (.int .u64 0)) (E.new (v := (B c_11)) 59 1 (by kernel_rfl) rfl)) (xc44 _ _) (c7.out w'))
    (Obs.val (fun a' w' E => ob_move (.tmp 60) rfl (E.new (v := (.tuple #[(B s_12), (B c_13)])) 60 2 (by kernel_rfl) rfl))
    (Obs.val (fun a' w' E => ob_extract (.tmp 57) 0 rfl (E.new (v := (.tuple #[(B s_12), (B c_13)])) 57 3 (by kernel_rfl) rfl) rfl)
    (Obs.val (fun a' w' E => ob_extract (.tmp 57) 1 rfl (E.new (v := (.tuple #[(B s_12), (B c_13)])) 57 3 (by kernel_rfl) rfl) rfl)
    (Obs.val (fun a' w' E => ob_assign (.tmp 61) rfl (E.new (v := (B s_12)) 61 4 (by kernel_rfl) rfl))
    (Obs.val (fun a' w' E => ob_assign (.tmp 62) rfl (E.new (v := (B c_13)) 62 5 (by kernel_rfl) rfl))
    Obs.nil)))))))) ?_
  intro bs w7 aZ haZ F
  have eZ : aZ = ({ tmps := #[(.agg #[B a0, B a1, B a2, B a3]), (.agg #[B b0, B b1, B b2, B b3]), (PT w.heap.size), (PT (w.heap.size + 1)), (PT (w.heap.size + 1 + 1)), (B c_13), (B l_9), (B s_10), (B s_12), (B l_7), (.tuple #[(B h_0), (B l_1)]), (PT w.heap.size), (B a0), (PT (w.heap.size + 1)), (B b0), (.tuple #[(B h_0), (B l_1)]), (B h_0), (B l_1), (.tuple #[(B h_2), (B l_3)]), (PO w.heap.size 1), (B a1), (PO (w.heap.size + 1) 1), (B b1), (B h_0), (.tuple #[(B h_2), (B l_3)]), (B h_2), (B l_3), (.tuple #[(B h_4), (B l_5)]), (PO w.heap.size 2), (B a2), (PO (w.heap.size + 1) 2), (B b2), (B h_2), (.tuple #[(B h_4), (B l_5)]), (B h_4), (B l_5), (.tuple #[(B h_6), (B l_7)]), (PO w.heap.size 3), (B a3), (PO (w.heap.size + 1) 3), (B b3), (B h_4), (.tuple #[(B h_6), (B l_7)]), (B h_6), (B l_7), (.tuple #[(B h_8), (B l_9)]), (B h_6), (B l_1), (.tuple #[(B h_8), (B l_9)]), (B h_8), (B l_9), (.tuple #[(B s_10), (B c_11)]), (B l_3), (B h_8), (.tuple #[(B s_10), (B c_11)]), (B s_10), (B c_11), (.tuple #[(B s_12), (B c_13)]), (B l_5), (B c_11), (.tuple #[(B s_12), (B c_13)]), (B s_12), (B c_13), undef, undef, undef, undef, undef, undef, undef, undef, undef, undef, undef, undef], defers := [] } : Act) := haZ.trans (by kernel_rfl)
  subst eZ
  clear haZ
  replace RR : Hid (RB w w7 [(w.heap.size + 1 + 1, Zr), (w.heap.size + 1, #[B b0, B b1, B b2, B b3]), (w.heap.size, #[B a0, B a1, B a2, B a3])]) := ⟨F.bw, (RowsAt.cons (F.row 2 rfl) (RowsAt.cons (F.row 1 rfl) (RowsAt.cons (F.row 0 rfl) RowsAt.nil)))⟩
  clear F qT q0 q1 q2
  go_upto_region 8 with fail
  obtain ⟨q2, q1, q0, qT⟩ := RR.out.r.lts
  refine wp_region_told (by kernel_rfl) (by kernel_rfl) (by kernel_rfl) [(w.heap.size, #[B a0, B a1, B a2, B a3]), (w.heap.size + 1, #[B b0, B b1, B b2, B b3]), (w.heap.size + 1 + 1, Zr)]
    [sV (B l_7),
     sV (B c_13),
     sV (.tuple #[(B s_14), (B c_15)]),
     sV (.tuple #[(B s_14), (B c_15)]),
     sV (B s_14),
     sV (B c_15),
     sV (B s_14),
     sV (B c_15)]
    (by kernel_rfl) RR.out.b (RowsAt.cons (RR.out.at 2 rfl) (RowsAt.cons (RR.out.at 1 rfl) (RowsAt.cons (RR.out.at 0 rfl) RowsAt.nil))) (StOk.of [] rfl StM.nil)
    (Obs.val (fun a' w' E => ob_move (.tmp 9) rfl (E.olds 9 6 (by kernel_rfl) (by kernel_rfl)))
    (Obs.val (fun a' w' E => ob_move (.tmp 5) rfl (E.olds 5 7 (by kernel_rfl) (by kernel_rfl)))
    (Obs.val (fun a' w' E => ob_xcall 44 _ _ rfl (am3 (E.new (v := (B l_7)) 64 0 (by kernel_rfl) rfl) (evc a' (.int .u64 0)) (E.new (v := (B c_13)) 65 1 (by kernel_rfl) rfl)) (xc44 _ _) (c8.out w'))
    (Obs.val (fun a' w' E => ob_move (.tmp 66) rfl (E.new (v := (.tuple #[(B s_14), (B c_15)])) 66 2 (by kernel_rfl) rfl))
    (Obs.val (fun a' w' E => ob_extract (.tmp 63) 0 rfl (E.new (v := (.tuple #[(B s_14), (B c_15)])) 63 3 (by kernel_rfl) rfl) rfl)
    (Obs.val (fun a' w' E => ob_extract (.tmp 63) 1 rfl (E.new (v := (.tuple #[(B s_14), (B c_15)])) 63 3 (by kernel_rfl) rfl) rfl)
    (Obs.val (fun a' w' E => ob_assign (.tmp 67) rfl (E.new (v := (B s_14)) 67 4 (by kernel_rfl) rfl))
    (Obs.val (fun a' w' E => ob_assign (.tmp 68) rfl (E.new (v := (B c_15)) 68 5 (by kernel_rfl) rfl))
    Obs.nil)))))))) ?_
  intro bs w8 aZ haZ F
  have eZ : aZ = ({ tmps := #[(.agg #[B a0, B a1, B a2, B a3]), (.agg #[B b0, B b1, B b2, B b3]), (PT w.heap.size), (PT (w.heap.size + 1)), (PT (w.heap.size + 1 + 1)), (B c_15), (B l_9), (B s_10), (B s_12), (B s_14), (.tuple #[(B h_0), (B l_1)]), (PT w.heap.size), (B a0), (PT (w.heap.size + 1)), (B b0), (.tuple #[(B h_0), (B l_1)]), (B h_0), (B l_1), (.tuple #[(B h_2), (B l_3)]), (PO w.heap.size 1), (B a1), (PO (w.heap.size + 1) 1), (B b1), (B h_0), (.tuple #[(B h_2), (B l_3)]), (B h_2), (B l_3), (.tuple #[(B h_4), (B l_5)]), (PO w.heap.size 2), (B a2), (PO (w.heap.size + 1) 2), (B b2), (B h_2), (.tuple #[(B h_4), (B l_5)]), (B h_4), (B l_5), (.tuple #[(B h_6), (B l_7)]), (PO w.heap.size 3), (B a3), (PO (w.heap.size + 1) 3), (B b3), (B h_4), (.tuple #[(B h_6), (B l_7)]), (B h_6), (B l_7), (.tuple #[(B h_8), (B l_9)]), (B h_6), (B l_1), (.tuple #[(B h_8), (B l_9)]), (B h_8), (B l_9), (.tuple #[(B s_10), (B c_11)]), (B l_3), (B h_8), (.tuple #[(B s_10), (B c_11)]), (B s_10), (B c_11), (.tuple #[(B s_12), (B c_13)]), (B l_5), (B c_11), (.tuple #[(B s_12), (B c_13)]), (B s_12), (B c_13), (.tuple #[(B s_14), (B c_15)]), (B l_7), (B c_13), (.tuple #[(B s_14), (B c_15)]), (B s_14), (B c_15), undef, undef, undef, undef, undef, undef], defers := [] } : Act) := haZ.trans (by kernel_rfl)
  subst eZ
  clear haZ
  replace RR : Hid (RB w w8 [(w.heap.size + 1 + 1, Zr), (w.heap.size + 1, #[B b0, B b1, B b2, B b3]), (w.heap.size, #[B a0, B a1, B a2, B a3])]) := ⟨F.bw, (RowsAt.cons (F.row 2 rfl) (RowsAt.cons (F.row 1 rfl) (RowsAt.cons (F.row 0 rfl) RowsAt.nil)))⟩
  clear F qT q0 q1 q2
  go_upto_region 9 with fail
  obtain ⟨q2, q1, q0, qT⟩ := RR.out.r.lts
  refine wp_region_told (by kernel_rfl) (by kernel_rfl) (by kernel_rfl) [(w.heap.size, #[B a0, B a1, B a2, B a3]), (w.heap.size + 1, #[B b0, B b1, B b2, B b3])]
    [sV (B l_9),
     sV (B s_10),
     sV (B s_12),
     sV (B s_14),
     sV (B c_15),
     sV (.agg #[B q_16, B q_17, B q_18, B q_19]),
     sK (w.heap.size + 1 + 1) Zr #[B q_16, B q_17, B q_18, B q_19]]
    (by kernel_rfl) RR.out.b (RowsAt.cons (RR.out.at 2 rfl) (RowsAt.cons (RR.out.at 1 rfl) RowsAt.nil)) (StOk.of [(w.heap.size + 1 + 1, Zr)] rfl (StM.cons (RR.out.at 0 rfl) (by omega) (Apart.cons (by omega) (Apart.cons (by omega) Apart.nil)) Apart.nil StM.nil))
    (Obs.val (fun a' w' E => ob_move (.tmp 6) rfl (E.old 6 (by kernel_rfl)))
    (Obs.val (fun a' w' E => ob_move (.tmp 7) rfl (E.old 7 (by kernel_rfl)))
    (Obs.val (fun a' w' E => ob_move (.tmp 8) rfl (E.old 8 (by kernel_rfl)))
    (Obs.val (fun a' w' E => ob_move (.tmp 9) rfl (E.old 9 (by kernel_rfl)))
    (Obs.val (fun a' w' E => ob_move (.tmp 5) rfl (E.old 5 (by kernel_rfl)))
    (Obs.val (fun a' w' E => ob_fcall 92 _ _ rfl (am5 (E.new (v := (B l_9)) 69 0 (by kernel_rfl) rfl) (E.new (v := (B s_10)) 70 1 (by kernel_rfl) rfl) (E.new (v := (B s_12)) 71 2 (by kernel_rfl) rfl) (E.new (v := (B s_14)) 72 3 (by kernel_rfl) rfl) (E.new (v := (B c_15)) 73 4 (by kernel_rfl) rfl)) (fc92 _ _) (c9.out w'))
    (Obs.stk (fun a' w' E hr => ob_storea 24 (.tmp 4) (.tmp 74) rfl (E.old 4 (by kernel_rfl)) (E.new (v := (.agg #[B q_16, B q_17, B q_18, B q_19])) 74 5 (by kernel_rfl) rfl) rfl hr (by kernel_rfl) (Nat.le_of_ble_eq_true rfl) (by kernel_rfl) rfl)
    Obs.nil))))))) ?_
  intro bs w9 aZ haZ F
  have eZ : aZ = ({ tmps := #[(.agg #[B a0, B a1, B a2, B a3]), (.agg #[B b0, B b1, B b2, B b3]), (PT w.heap.size), (PT (w.heap.size + 1)), (PT (w.heap.size + 1 + 1)), (B c_15), (B l_9), (B s_10), (B s_12), (B s_14), (.tuple #[(B h_0), (B l_1)]), (PT w.heap.size), (B a0), (PT (w.heap.size + 1)), (B b0), (.tuple #[(B h_0), (B l_1)]), (B h_0), (B l_1), (.tuple #[(B h_2), (B l_3)]), (PO w.heap.size 1), (B a1), (PO (w.heap.size + 1) 1), (B b1), (B h_0), (.tuple #[(B h_2), (B l_3)]), (B h_2), (B l_3), (.tuple #[(B h_4), (B l_5)]), (PO w.heap.size 2), (B a2), (PO (w.heap.size + 1) 2), (B b2), (B h_2), (.tuple #[(B h_4), (B l_5)]), (B h_4), (B l_5), (.tuple #[(B h_6), (B l_7)]), (PO w.heap.size 3), (B a3), (PO (w.heap.size + 1) 3), (B b3), (B h_4), (.tuple #[(B h_6), (B l_7)]), (B h_6), (B l_7), (.tuple #[(B h_8), (B l_9)]), (B h_6), (B l_1), (.tuple #[(B h_8), (B l_9)]), (B h_8), (B l_9), (.tuple #[(B s_10), (B c_11)]), (B l_3), (B h_8), (.tuple #[(B s_10), (B c_11)]), (B s_10), (B c_11), (.tuple #[(B s_12), (B c_13)]), (B l_5), (B c_11), (.tuple #[(B s_12), (B c_13)]), (B s_12), (B c_13), (.tuple #[(B s_14), (B c_15)]), (B l_7), (B c_13), (.tuple #[(B s_14), (B c_15)]), (B s_14), (B c_15), (B l_9), (B s_10), (B s_12), (B s_14), (B c_15), (.agg #[B q_16, B q_17, B q_18, B q_19])], defers := [] } : Act) := haZ.trans (by kernel_rfl)
  subst eZ
  clear haZ
  replace RR : Hid (RB w w9 [(w.heap.size + 1 + 1, #[B q_16, B q_17, B q_18, B q_19]), (w.heap.size + 1, #[B b0, B b1, B b2, B b3]), (w.heap.size, #[B a0, B a1, B a2, B a3])]) := ⟨F.bw, (RowsAt.cons (F.sk 6 rfl) (RowsAt.cons (F.row 1 rfl) (RowsAt.cons (F.row 0 rfl) RowsAt.nil)))⟩
  clear F qT q0 q1 q2
  go_wp2
  exact bodyPost_ret (v := (.agg #[B q_16, B q_17, B q_18, B q_19])) (resA (p := 4) (ty := 24) rfl (g := w.heap.size + 1 + 1) rfl (RR.out.at 0 rfl) Tryd.underlying24 rfl (by kernel_rfl)) rfl ⟨rfl, RR.out.b⟩
end Go.Proofs.YtpdoonofipcbeaaDoor
