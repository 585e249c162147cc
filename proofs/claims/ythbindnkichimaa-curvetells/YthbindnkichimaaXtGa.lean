/- Raw walk of awake, over letters. -/
import Derived.Test.YthbindnkichimaaXtMC
import Derived.Test.YthbindnkichimaaXtQc
import Derived.Test.YthbindnkichimaaXtEq
import Derived.WalkSmall
import Derived.Deep.Cut
import Derived.Deep.Light
namespace Go.Proofs.Ythbindnkichimaa
open Go.RowKit Go.Sort
set_option linter.unusedVariables false
set_option maxRecDepth 100000 in
set_option maxHeartbeats 4000000 in
theorem awake_raw (gx gy hx hy nx ny : Nat) (hn nn : Bool) (hB : Does 16 #[] (A9 gx gy false)) (hM : Does 23 #[(.agg #[.int .u64 2, .int .u64 0, .int .u64 0, .int .u64 0]), (A9 gx gy false)] (A9 hx hy hn)) (hN : Does 19 #[(A9 gx gy false)] (A9 nx ny nn)) (hA : Does 21 #[(A9 gx gy false), (A9 nx ny nn)] (A9 0 0 true)) (hsh : ((l3 hx : Nat) : Int) / 4294967296 = 3322183572)
    (w : World) : Calls Try.prog 18 #[] w fun e w' => e = .returned (.bool true) ∧ Below w.heap.size w w' := by
  go_enter Try.func18, Try.ntmps18
  go_upto_region 1 with fail
  refine name_world _ ?_
  intro wF hF0
  have RR : Hid (RB w wF []) := by rw [hF0]; exact (rb0 w)
  clear hF0
  refine wp_region_told (by kernel_rfl) (by kernel_rfl) (by kernel_rfl) []
    [sV (A9 gx gy false),
     sA (fun g => .pointer (some ⟨g, 0, none⟩)) 2 Z9 (P9 gx gy false),
     sS 1]
    (by kernel_rfl) RR.out.b RowsAt.nil (StOk.of [] rfl StM.nil)
    (Obs.val (fun a' w' E => ob_fcall 16 _ _ rfl (am0) (fc16 _ _) (hB.out w'))
    (Obs.alloc (fun a' w' E => ob_alloc (t := 26) (by simp [opAt, execOp, go_sem]))
    (Obs.sta rfl (fun a' w' g E ha hr => ob_storea 26 (.tmp 1) (.tmp 3) rfl (ha 1 (by kernel_rfl)) (E.new (v := (A9 gx gy false)) 3 0 (by kernel_rfl) rfl) rfl hr (by kernel_rfl) (Nat.le_of_ble_eq_true rfl) (by kernel_rfl) rfl)
    Obs.nil))) ?_
  intro bs w1 aZ haZ F
  have eZ : aZ = ({ tmps := #[(.bool false), (PT ((bs 1))), undef, (A9 gx gy false), undef, undef, undef, undef, undef, undef, undef, undef, undef, undef, undef, undef, undef, undef, undef], defers := [] } : Act) := haZ.trans (by kernel_rfl)
  subst eZ
  clear haZ
  obtain ⟨h1, X1⟩ := F.al 1 rfl rfl
  replace RR : Hid (RB w w1 [((bs 1), (P9 gx gy false))]) := ⟨F.bw, (RowsAt.cons X1 RowsAt.nil)⟩
  generalize bs 1 = g1_1 at *
  clear F h1 X1
  clear wF
  go_upto_region 2 with fail
  obtain ⟨q0, qT⟩ := RR.out.r.lts
  refine wp_region_told (by kernel_rfl) (by kernel_rfl) (by kernel_rfl) [(g1_1, (P9 gx gy false))]
    [sV (.agg #[.int .u64 2, .int .u64 0, .int .u64 0, .int .u64 0]),
     sV (A9 gx gy false),
     sV (A9 hx hy hn),
     sA (fun g => .pointer (some ⟨g, 0, none⟩)) 4 Z9 (P9 hx hy hn),
     sS 3]
    (by kernel_rfl) RR.out.b (RowsAt.cons (RR.out.at 0 rfl) RowsAt.nil) (StOk.of [] rfl StM.nil)
    (Obs.val (fun a' w' E => ob_build 24 _ rfl (pm1 (evc a' (.int .u64 2))) (bd24_0i _ w'))
    (Obs.val (fun a' w' E => ob_loada 26 (.tmp 1) rfl (E.old 1 (by kernel_rfl)) (E.row (g := g1_1) (c := (P9 gx gy false)) 0 rfl) Try.underlying26 rfl (by kernel_rfl) rfl)
    (Obs.val (fun a' w' E => ob_fcall 23 _ _ rfl (am2 (E.new (v := (.agg #[.int .u64 2, .int .u64 0, .int .u64 0, .int .u64 0])) 4 0 (by kernel_rfl) rfl) (E.new (v := (A9 gx gy false)) 5 1 (by kernel_rfl) rfl)) (fc23 _ _) (hM.out w'))
    (Obs.alloc (fun a' w' E => ob_alloc (t := 26) (by simp [opAt, execOp, go_sem]))
    (Obs.sta rfl (fun a' w' g E ha hr => ob_storea 26 (.tmp 2) (.tmp 6) rfl (ha 2 (by kernel_rfl)) (E.new (v := (A9 hx hy hn)) 6 2 (by kernel_rfl) rfl) rfl hr (by kernel_rfl) (Nat.le_of_ble_eq_true rfl) (by kernel_rfl) rfl)
    Obs.nil))))) ?_
  intro bs w2 aZ haZ F
  have eZ : aZ = ({ tmps := #[(.bool false), (PT g1_1), (PT ((bs 3))), (A9 gx gy false), (.agg #[.int .u64 2, .int .u64 0, .int .u64 0, .int .u64 0]), (A9 gx gy false), (A9 hx hy hn), undef, undef, undef, undef, undef, undef, undef, undef, undef, undef, undef, undef], defers := [] } : Act) := haZ.trans (by kernel_rfl)
  subst eZ
  clear haZ
  obtain ⟨h3, X3⟩ := F.al 3 rfl rfl
  replace RR : Hid (RB w w2 [((bs 3), (P9 hx hy hn)), (g1_1, (P9 gx gy false))]) := ⟨F.bw, (RowsAt.cons X3 (RowsAt.cons (F.row 0 rfl) RowsAt.nil))⟩
  generalize bs 3 = g2_3 at *
  have k2_3_0 := Nat.lt_of_lt_of_le q0 h3
  clear F qT q0 h3 X3
  go_upto_region 3 with fail
  obtain ⟨q1, q0, qT⟩ := RR.out.r.lts
  refine wp_region_told (by kernel_rfl) (by kernel_rfl) (by kernel_rfl) [(g1_1, (P9 gx gy false)), (g2_3, (P9 hx hy hn))]
    [sV (A9 gx gy false),
     sV (A9 gx gy false),
     sV (A9 nx ny nn),
     sV (A9 0 0 true),
     sV (.bool true),
     sV (.bool true),
     sV (PT g2_3),
     sV (PO g2_3 3),
     sV (B (l3 hx)),
     sV (.int .u64 3322183572),
     sV (.bool true),
     sV (.bool true),
     sV (.bool true)]
    (by kernel_rfl) RR.out.b (RowsAt.cons (RR.out.at 1 rfl) (RowsAt.cons (RR.out.at 0 rfl) RowsAt.nil)) (StOk.of [] rfl StM.nil)
    (Obs.val (fun a' w' E => ob_loada 26 (.tmp 1) rfl (E.old 1 (by kernel_rfl)) (E.row (g := g1_1) (c := (P9 gx gy false)) 0 rfl) Try.underlying26 rfl (by kernel_rfl) rfl)
    (Obs.val (fun a' w' E => ob_loada 26 (.tmp 1) rfl (E.old 1 (by kernel_rfl)) (E.row (g := g1_1) (c := (P9 gx gy false)) 0 rfl) Try.underlying26 rfl (by kernel_rfl) rfl)
    (Obs.val (fun a' w' E => ob_fcall 19 _ _ rfl (am1 (E.new (v := (A9 gx gy false)) 8 1 (by kernel_rfl) rfl)) (fc19 _ _) (hN.out w'))
    (Obs.val (fun a' w' E => ob_fcall 21 _ _ rfl (am2 (E.new (v := (A9 gx gy false)) 7 0 (by kernel_rfl) rfl) (E.new (v := (A9 nx ny nn)) 9 2 (by kernel_rfl) rfl)) (fc21 _ _) (hA.out w'))
    (Obs.val (fun a' w' E => ob_field 26 (.tmp 10) 2 rfl (E.new (v := (A9 0 0 true)) 10 3 (by kernel_rfl) rfl) (fd26_2 _ _ _ w'))
    (Obs.val (fun a' w' E => ob_move (.tmp 11) rfl (E.new (v := (.bool true)) 11 4 (by kernel_rfl) rfl))
    (Obs.gval rfl rfl (fun a' w' E => E.new 12 5 (by kernel_rfl) rfl) (fun a' w' E => ob_fieldAddr 26 (.tmp 2) 0 rfl (E.old 2 (by kernel_rfl)) (fa26_0 _ _ w'))
    (Obs.gval rfl rfl (fun a' w' E => E.new 12 5 (by kernel_rfl) rfl) (fun a' w' E => ob_indexAddr 24 (.tmp 13) (.const (.int .i64 3)) rfl (E.new (v := (PT g2_3)) 13 6 (by kernel_rfl) rfl) (evc a' (.int .i64 3)) (ix24_3 _ _ w'))
    (Obs.gval rfl rfl (fun a' w' E => E.new 12 5 (by kernel_rfl) rfl) (fun a' w' E => ob_load1 22 (.tmp 14) rfl (E.new (v := (PO g2_3 3)) 14 7 (by kernel_rfl) rfl) (E.row (g := g2_3) (c := (P9 hx hy hn)) 1 rfl) Try.underlying22 rfl rfl)
    (Obs.gval rfl rfl (fun a' w' E => E.new 12 5 (by kernel_rfl) rfl) (fun a' w' E => ob_binOp .shr 22 (.tmp 15) (.const (.int .u64 32)) 50 rfl (E.new (v := (B (l3 hx))) 15 8 (by kernel_rfl) rfl) (evc a' (.int .u64 32)) (by simp [go_sem, hsh]))
    (Obs.gval rfl rfl (fun a' w' E => E.new 12 5 (by kernel_rfl) rfl) (fun a' w' E => ob_binOp .eql 22 (.tmp 16) (.const (.int .u64 3322183572)) 22 rfl (E.new (v := (.int .u64 3322183572)) 16 9 (by kernel_rfl) rfl) (evc a' (.int .u64 3322183572)) (by simp [go_sem]))
    (Obs.val (fun a' w' E => ob_pick (.tmp 12) (.tmp 17) (.const (.bool false)) rfl (E.new (v := (.bool true)) 12 5 (by kernel_rfl) rfl) (E.new (v := (.bool true)) 17 10 (by kernel_rfl) rfl))
    (Obs.val (fun a' w' E => ob_assign (.tmp 18) rfl (E.new (v := (.bool true)) 18 11 (by kernel_rfl) rfl))
    Obs.nil))))))))))))) ?_
  intro bs w3 aZ haZ F
  have eZ : aZ = ({ tmps := #[(.bool true), (PT g1_1), (PT g2_3), (A9 gx gy false), (.agg #[.int .u64 2, .int .u64 0, .int .u64 0, .int .u64 0]), (A9 gx gy false), (A9 hx hy hn), (A9 gx gy false), (A9 gx gy false), (A9 nx ny nn), (A9 0 0 true), (.bool true), (.bool true), (PT g2_3), (PO g2_3 3), (B (l3 hx)), (.int .u64 3322183572), (.bool true), (.bool true)], defers := [] } : Act) := haZ.trans (by kernel_rfl)
  subst eZ
  clear haZ
  replace RR : Hid (RB w w3 [(g2_3, (P9 hx hy hn)), (g1_1, (P9 gx gy false))]) := ⟨F.bw, (RowsAt.cons (F.row 1 rfl) (RowsAt.cons (F.row 0 rfl) RowsAt.nil))⟩
  clear F qT q0 q1
  go_wp2
  exact bodyPost_ret (v := (.bool true)) (by simp [results, Try.results18, go_sem]) rfl ⟨rfl, RR.out.b⟩
end Go.Proofs.Ythbindnkichimaa
