/- Raw walks of awake and of KeySmall, over letters. -/
import Derived.Test.YtpdoonofipcbeaaDoorXsMC
import Derived.Test.YtpdoonofipcbeaaDoorXsQc
import Derived.Test.YtpdoonofipcbeaaDoorXsEq
import Derived.Test.YtpdoonofipcbeaaDoorXsHr
import Derived.WalkSmall
import Derived.Deep.Cut
import Derived.Deep.Light
namespace Go.Proofs.YtpdoonofipcbeaaDoor
open Go.RowKit Go.Sort
set_option linter.unusedVariables false
set_option maxRecDepth 100000 in
set_option maxHeartbeats 4000000 in
theorem awake_raw  (hK : DoesT 9 #[(.agg #[.int .u64 1, .int .u64 0, .int .u64 0, .int .u64 0])] (.tuple #[(.string gA), (.int .i64 0)])) 
    (w : World) (ht : Tabs w ki) : Calls Tryd.prog 18 #[] w fun e w' => e = .returned (.bool true) ∧ Below w.heap.size w w' := by
  have HT : Hid (Tabs w ki) := ht
  clear ht
  go_enter Tryd.func18, Tryd.ntmps18
  go_upto_region 1 with fail
  refine name_world _ ?_
  intro wF hF0
  have RR : Hid (RB w wF []) := by rw [hF0]; exact (rb0 w)
  clear hF0
  refine wp_region_told (by kernel_rfl) (by kernel_rfl) (by kernel_rfl) []
    [sV (.agg #[.int .u64 1, .int .u64 0, .int .u64 0, .int .u64 0]),
     sV (.tuple #[(.string gA), (.int .i64 0)]),
     sV (.tuple #[(.string gA), (.int .i64 0)]),
     sV (.string gA),
     sV (.int .i64 0),
     sV (.string gA),
     sV (.int .i64 0)]
    (by kernel_rfl) RR.out.b RowsAt.nil (StOk.of [] rfl StM.nil)
    (Obs.val (fun a' w' E => ob_build 24 _ rfl (pm1 (evc a' (.int .u64 1))) (bd24_0i _ w'))
    (Obs.val (fun a' w' E => ob_fcall 9 _ _ rfl (am1 (E.new (v := (.agg #[.int .u64 1, .int .u64 0, .int .u64 0, .int .u64 0])) 4 0 (by kernel_rfl) rfl)) (fc9 _ _) (tbl hK HT.out E.bw w'))
    (Obs.val (fun a' w' E => ob_move (.tmp 5) rfl (E.new (v := (.tuple #[(.string gA), (.int .i64 0)])) 5 1 (by kernel_rfl) rfl))
    (Obs.val (fun a' w' E => ob_extract (.tmp 3) 0 rfl (E.new (v := (.tuple #[(.string gA), (.int .i64 0)])) 3 2 (by kernel_rfl) rfl) rfl)
    (Obs.val (fun a' w' E => ob_extract (.tmp 3) 1 rfl (E.new (v := (.tuple #[(.string gA), (.int .i64 0)])) 3 2 (by kernel_rfl) rfl) rfl)
    (Obs.val (fun a' w' E => ob_assign (.tmp 6) rfl (E.new (v := (.string gA)) 6 3 (by kernel_rfl) rfl))
    (Obs.val (fun a' w' E => ob_assign (.tmp 7) rfl (E.new (v := (.int .i64 0)) 7 4 (by kernel_rfl) rfl))
    Obs.nil))))))) ?_
  intro bs w1 aZ haZ F
  have eZ : aZ = ({ tmps := #[(.bool false), (.string gA), (.int .i64 0), (.tuple #[(.string gA), (.int .i64 0)]), (.agg #[.int .u64 1, .int .u64 0, .int .u64 0, .int .u64 0]), (.tuple #[(.string gA), (.int .i64 0)]), (.string gA), (.int .i64 0), undef, undef, undef, undef, undef, undef], defers := [] } : Act) := haZ.trans (by kernel_rfl)
  subst eZ
  clear haZ
  replace RR : Hid (RB w w1 []) := ⟨F.bw, RowsAt.nil⟩
  clear F 
  clear wF
  go_upto_region 2 with fail
  refine wp_region_told (by kernel_rfl) (by kernel_rfl) (by kernel_rfl) []
    [sV (.int .i64 0),
     sV (.bool true),
     sV (.bool true),
     sV (.string gA),
     sV (.bool true),
     sV (.bool true),
     sV (.bool true)]
    (by kernel_rfl) RR.out.b RowsAt.nil (StOk.of [] rfl StM.nil)
    (Obs.val (fun a' w' E => ob_move (.tmp 2) rfl (E.old 2 (by kernel_rfl)))
    (Obs.val (fun a' w' E => ob_binOp .eql 27 (.tmp 8) (.const (.int .i64 0)) 27 rfl (E.new (v := (.int .i64 0)) 8 0 (by kernel_rfl) rfl) (evc a' (.int .i64 0)) (by simp [go_sem]))
    (Obs.val (fun a' w' E => ob_move (.tmp 9) rfl (E.new (v := (.bool true)) 9 1 (by kernel_rfl) rfl))
    (Obs.gval rfl rfl (fun a' w' E => E.new 10 2 (by kernel_rfl) rfl) (fun a' w' E => ob_move (.tmp 1) rfl (E.old 1 (by kernel_rfl)))
    (Obs.gval rfl rfl (fun a' w' E => E.new 10 2 (by kernel_rfl) rfl) (fun a' w' E => ob_binOp .eql 9 (.tmp 11) (.const (.string { data := #[126, 95, 69, 82, 9, 26, 105, 18, 93, 93, 252, 183, 184, 194, 101, 144, 41, 57, 91, 223] })) 9 rfl (E.new (v := (.string gA)) 11 3 (by kernel_rfl) rfl) (evc a' (.string { data := #[126, 95, 69, 82, 9, 26, 105, 18, 93, 93, 252, 183, 184, 194, 101, 144, 41, 57, 91, 223] })) (by simp [go_sem, gA]))
    (Obs.val (fun a' w' E => ob_pick (.tmp 10) (.tmp 12) (.const (.bool false)) rfl (E.new (v := (.bool true)) 10 2 (by kernel_rfl) rfl) (E.new (v := (.bool true)) 12 4 (by kernel_rfl) rfl))
    (Obs.val (fun a' w' E => ob_assign (.tmp 13) rfl (E.new (v := (.bool true)) 13 5 (by kernel_rfl) rfl))
    Obs.nil))))))) ?_
  intro bs w2 aZ haZ F
  have eZ : aZ = ({ tmps := #[(.bool true), (.string gA), (.int .i64 0), (.tuple #[(.string gA), (.int .i64 0)]), (.agg #[.int .u64 1, .int .u64 0, .int .u64 0, .int .u64 0]), (.tuple #[(.string gA), (.int .i64 0)]), (.string gA), (.int .i64 0), (.int .i64 0), (.bool true), (.bool true), (.string gA), (.bool true), (.bool true)], defers := [] } : Act) := haZ.trans (by kernel_rfl)
  subst eZ
  clear haZ
  replace RR : Hid (RB w w2 []) := ⟨F.bw, RowsAt.nil⟩
  clear F 
  go_wp2
  exact bodyPost_ret (v := (.bool true)) (by simp [results, Tryd.results18, go_sem]) rfl ⟨rfl, RR.out.b⟩
end Go.Proofs.YtpdoonofipcbeaaDoor
