/- Raw walks of awake and of KeySmall, over letters. -/
import Derived.Test.YtpdoonofipcbeaaDoorXmMC
import Derived.Test.YtpdoonofipcbeaaDoorXmQa
import Derived.Test.YtpdoonofipcbeaaDoorXmMB
import Derived.Test.YtpdoonofipcbeaaDoorXmEq
import Derived.Test.YtpdoonofipcbeaaDoorXmHr
import Derived.WalkSmall
import Derived.Deep.Cut
import Derived.Deep.Light
namespace Go.Proofs.YtpdoonofipcbeaaDoor
open Go.RowKit Go.Sort
set_option linter.unusedVariables false
set_option maxRecDepth 100000 in
set_option maxHeartbeats 4000000 in
theorem awake_raw  (hK : DoesT 9 #[(.agg #[.int .u64 1, .int .u64 0, .int .u64 0, .int .u64 0])] (.tuple #[(.string gA), (.int .i64 0)])) 
    (w : World) (ht : Tabs w ki) : Calls Tryd.prog 18 #[] w fun e w' => e = .returned (.bool true) ∧ Below w.heap.size w w' := by
  have HT : Hid (Tabs w ki) := ht
  clear ht
  go_enter Tryd.func18, Tryd.ntmps18
  go_upto_region 1 with fail
  refine name_world _ ?_
  intro wF hF0
  have RR : Hid (RB w wF []) := by rw [hF0]; exact (rb0 w)
  clear hF0
  refine wp_region_told (by kernel_rfl) (by kernel_rfl) (by kernel_rfl) []
    [sV (.agg #[.int .u64 1, .int .u64 0, .int .u64 0, .int .u64 0]),
     sV (.tuple #[(.string gA), (.int .i64 0)]),
     sV (.tuple #[(.string gA), (.int .i64 0)]),
     sV (.string gA),
     sV (.int .i64 0),
     sV (.string gA),
     sV (.int .i64 0)]
    (by kernel_rfl) RR.out.b RowsAt.nil (StOk.of [] rfl StM.nil)
    (Obs.val (fun a' w' E => ob_build 24 _ rfl (pm1 (evc a' (.int .u64 1))) (bd24_0i _ w'))
    (Obs.val (fun a' w' E => ob_fcall 9 _ _ rfl (am1 (E.new (v := (.agg #[.int .u64 1, .int .u64 0, .int .u64 0, .int .u64 0])) 4 0 (by kernel_rfl) rfl)) (fc9 _ _) (tbl hK HT.out E.bw w'))
    (Obs.val (fun a' w' E => ob_move (.tmp 5) rfl (E.new (v := (.tuple #[(.string gA), (.int .i64 0)])) 5 1 (by kernel_rfl) rfl))
    (Obs.val (fun a' w' E => ob_extract (.tmp 3) 0 rfl (E.new (v := (.tuple #[(.string gA), (.int .i64 0)])) 3 2 (by kernel_rfl) rfl) rfl)
    (Obs.val (fun a' w' E => ob_extract (.tmp 3) 1 rfl (E.new (v := (.tuple #[(.string gA), (.int .i64 0)])) 3 2 (by kernel_rfl) rfl) rfl)
    (Obs.val (fun a' w' E => ob_assign (.tmp 6) rfl (E.new (v := (.string gA)) 6 3 (by kernel_rfl) rfl))
    (Obs.val (fun a' w' E => ob_assign (.tmp 7) rfl (E.new (v := (.int .i64 0)) 7 4 (by kernel_rfl) rfl))
    Obs.nil))))))) ?_
  intro bs w1 aZ haZ F
  have eZ : aZ = ({ tmps := #[(.bool false), (.string gA), (.int .i64 0), (.tuple #[(.string gA), (.int .i64 0)]), (.agg #[.int .u64 1, .int .u64 0, .int .u64 0, .int .u64 0]), (.tuple #[(.string gA), (.int .i64 0)]), (.string gA), (.int .i64 0), undef, undef, undef, undef, undef, undef], defers := [] } : Act) := haZ.trans (by kernel_rfl)
  subst eZ
  clear haZ
  replace RR : Hid (RB w w1 []) := ⟨F.bw, RowsAt.nil⟩
  clear F 
  clear wF
  go_upto_region 2 with fail
  refine wp_region_told (by kernel_rfl) (by kernel_rfl) (by kernel_rfl) []
    [sV (.int .i64 0),
     sV (.bool true),
     sV (.bool true),
     sV (.string gA),
     sV (.bool true),
     sV (.bool true),
     sV (.bool true)]
    (by kernel_rfl) RR.out.b RowsAt.nil (StOk.of [] rfl StM.nil)
    (Obs.val (fun a' w' E => ob_move (.tmp 2) rfl (E.old 2 (by kernel_rfl)))
    (Obs.val (fun a' w' E => ob_binOp .eql 27 (.tmp 8) (.const (.int .i64 0)) 27 rfl (E.new (v := (.int .i64 0)) 8 0 (by kernel_rfl) rfl) (evc a' (.int .i64 0)) (by simp [go_sem]))
    (Obs.val (fun a' w' E => ob_move (.tmp 9) rfl (E.new (v := (.bool true)) 9 1 (by kernel_rfl) rfl))
    (Obs.gval rfl rfl (fun a' w' E => E.new 10 2 (by kernel_rfl) rfl) (fun a' w' E => ob_move (.tmp 1) rfl (E.old 1 (by kernel_rfl)))
    (Obs.gval rfl rfl (fun a' w' E => E.new 10 2 (by kernel_rfl) rfl) (fun a' w' E => ob_binOp .eql 9 (.tmp 11) (.const (.string { data := #[126, 95, 69, 82, 9, 26, 105, 18, 93, 93, 252, 183, 184, 194, 101, 144, 41, 57, 91, 223] })) 9 rfl (E.new (v := (.string gA)) 11 3 (by kernel_rfl) rfl) (evc a' (.string { data := #[126, 95, 69, 82, 9, 26, 105, 18, 93, 93, 252, 183, 184, 194, 101, 144, 41, 57, 91, 223] })) (by simp [go_sem, gA]))
    (Obs.val (fun a' w' E => ob_pick (.tmp 10) (.tmp 12) (.const (.bool false)) rfl (E.new (v := (.bool true)) 10 2 (by kernel_rfl) rfl) (E.new (v := (.bool true)) 12 4 (by kernel_rfl) rfl))
    (Obs.val (fun a' w' E => ob_assign (.tmp 13) rfl (E.new (v := (.bool true)) 13 5 (by kernel_rfl) rfl))
    Obs.nil))))))) ?_
  intro bs w2 aZ haZ F
  have eZ : aZ = ({ tmps := #[(.bool true), (.string gA), (.int .i64 0), (.tuple #[(.string gA), (.int .i64 0)]), (.agg #[.int .u64 1, .int .u64 0, .int .u64 0, .int .u64 0]), (.tuple #[(.string gA), (.int .i64 0)]), (.string gA), (.int .i64 0), (.int .i64 0), (.bool true), (.bool true), (.string gA), (.bool true), (.bool true)], defers := [] } : Act) := haZ.trans (by kernel_rfl)
  subst eZ
  clear haZ
  replace RR : Hid (RB w w2 []) := ⟨F.bw, RowsAt.nil⟩
  clear F 
  go_wp2
  exact bodyPost_ret (v := (.bool true)) (by simp [results, Tryd.results18, go_sem]) rfl ⟨rfl, RR.out.b⟩
set_option maxRecDepth 100000 in
set_option maxHeartbeats 4000000 in
theorem ksmall (n k : Nat) (s : ByteArray) (hl : (s.size : Int) = 20) (hS : Does 13 #[(B n)] (U k)) (hK : DoesT 9 #[(U k)] (.tuple #[(.string s), (.int .i64 0)])) (hF : Does 11 #[(U k)] (.bool true)) (hW : DoesT 18 #[] (.bool true)) (hE0 : ∀ w, (Op.equalIn 10000 24 (U k) (U 0)).run Tryd.prog w = .ok false w)
    (w : World) (ht : Tabs w ki) : Calls Tryd.prog 4 #[(B n)] w fun e w' => e = .returned (.bool true) ∧ Below w.heap.size w w' := by
  have HT : Hid (Tabs w ki) := ht
  clear ht
  go_enter Tryd.func4, Tryd.ntmps4
  go_upto_region 1 with fail
  refine name_world _ ?_
  intro wF hF0
  have RR : Hid (RB w wF []) := by rw [hF0]; exact (rb0 w)
  clear hF0
  refine wp_region_told (by kernel_rfl) (by kernel_rfl) (by kernel_rfl) []
    [sV (B n),
     sV (U k),
     sA (fun g => .pointer (some ⟨g, 0, none⟩)) 3 Zr (Ar k),
     sS 2]
    (by kernel_rfl) RR.out.b RowsAt.nil (StOk.of [] rfl StM.nil)
    (Obs.val (fun a' w' E => ob_move (.tmp 0) rfl (E.old 0 (by kernel_rfl)))
    (Obs.val (fun a' w' E => ob_fcall 13 _ _ rfl (am1 (E.new (v := (B n)) 6 0 (by kernel_rfl) rfl)) (fc13 _ _) (hS.out w'))
    (Obs.alloc (fun a' w' E => ob_alloc (t := 24) (by simp [opAt, execOp, go_sem]))
    (Obs.sta rfl (fun a' w' g E ha hr => ob_storea 24 (.tmp 3) (.tmp 7) rfl (ha 3 (by kernel_rfl)) (E.new (v := (U k)) 7 1 (by kernel_rfl) rfl) rfl hr (by kernel_rfl) (Nat.le_of_ble_eq_true rfl) (by kernel_rfl) rfl)
    Obs.nil)))) ?_
  intro bs w1 aZ haZ F
  have eZ : aZ = ({ tmps := #[(B n), undef, (.bool false), (PT ((bs 2))), undef, undef, (B n), (U k), undef, undef, undef, undef, undef, undef, undef, undef, undef, undef, undef, undef, undef, undef, undef, undef, undef, undef, undef, undef, undef, undef, undef, undef], defers := [] } : Act) := haZ.trans (by kernel_rfl)
  subst eZ
  clear haZ
  obtain ⟨h2, X2⟩ := F.al 2 rfl rfl
  replace RR : Hid (RB w w1 [((bs 2), (Ar k))]) := ⟨F.bw, (RowsAt.cons X2 RowsAt.nil)⟩
  generalize bs 2 = g1_2 at *
  clear F h2 X2
  clear wF
  go_upto_region 2 with fail
  obtain ⟨q0, qT⟩ := RR.out.r.lts
  refine wp_region_told (by kernel_rfl) (by kernel_rfl) (by kernel_rfl) [(g1_2, (Ar k))]
    [sV (U k),
     sV (.tuple #[(.string s), (.int .i64 0)]),
     sV (.tuple #[(.string s), (.int .i64 0)]),
     sV (.string s),
     sV (.int .i64 0),
     sV (.string s),
     sV (.int .i64 0)]
    (by kernel_rfl) RR.out.b (RowsAt.cons (RR.out.at 0 rfl) RowsAt.nil) (StOk.of [] rfl StM.nil)
    (Obs.val (fun a' w' E => ob_loada 24 (.tmp 3) rfl (E.old 3 (by kernel_rfl)) (E.row (g := g1_2) (c := (Ar k)) 0 rfl) Tryd.underlying24 rfl (by kernel_rfl) rfl)
    (Obs.val (fun a' w' E => ob_fcall 9 _ _ rfl (am1 (E.new (v := (U k)) 9 0 (by kernel_rfl) rfl)) (fc9 _ _) (tbl hK HT.out E.bw w'))
    (Obs.val (fun a' w' E => ob_move (.tmp 10) rfl (E.new (v := (.tuple #[(.string s), (.int .i64 0)])) 10 1 (by kernel_rfl) rfl))
    (Obs.val (fun a' w' E => ob_extract (.tmp 8) 0 rfl (E.new (v := (.tuple #[(.string s), (.int .i64 0)])) 8 2 (by kernel_rfl) rfl) rfl)
    (Obs.val (fun a' w' E => ob_extract (.tmp 8) 1 rfl (E.new (v := (.tuple #[(.string s), (.int .i64 0)])) 8 2 (by kernel_rfl) rfl) rfl)
    (Obs.val (fun a' w' E => ob_assign (.tmp 11) rfl (E.new (v := (.string s)) 11 3 (by kernel_rfl) rfl))
    (Obs.val (fun a' w' E => ob_assign (.tmp 12) rfl (E.new (v := (.int .i64 0)) 12 4 (by kernel_rfl) rfl))
    Obs.nil))))))) ?_
  intro bs w2 aZ haZ F
  have eZ : aZ = ({ tmps := #[(B n), undef, (.bool false), (PT g1_2), (.string s), (.int .i64 0), (B n), (U k), (.tuple #[(.string s), (.int .i64 0)]), (U k), (.tuple #[(.string s), (.int .i64 0)]), (.string s), (.int .i64 0), undef, undef, undef, undef, undef, undef, undef, undef, undef, undef, undef, undef, undef, undef, undef, undef, undef, undef, undef], defers := [] } : Act) := haZ.trans (by kernel_rfl)
  subst eZ
  clear haZ
  replace RR : Hid (RB w w2 [(g1_2, (Ar k))]) := ⟨F.bw, (RowsAt.cons (F.row 0 rfl) RowsAt.nil)⟩
  clear F qT q0
  go_upto_region 3 with fail
  obtain ⟨q0, qT⟩ := RR.out.r.lts
  refine wp_region_told (by kernel_rfl) (by kernel_rfl) (by kernel_rfl) [(g1_2, (Ar k))]
    [sV (U k),
     sV (.bool true),
     sV (.bool true),
     sV (U k),
     sV (U 0),
     sV (.bool true),
     sV (.bool true),
     sV (.bool true),
     sV (.int .i64 0),
     sV (.bool true),
     sV (.bool true),
     sV (.bool true),
     sV (.string s),
     sV (.int .i64 20),
     sV (.bool true),
     sV (.bool true),
     sV (.bool true),
     sV (.bool true),
     sV (.bool true),
     sV (.bool true)]
    (by kernel_rfl) RR.out.b (RowsAt.cons (RR.out.at 0 rfl) RowsAt.nil) (StOk.of [] rfl StM.nil)
    (Obs.val (fun a' w' E => ob_loada 24 (.tmp 3) rfl (E.old 3 (by kernel_rfl)) (E.row (g := g1_2) (c := (Ar k)) 0 rfl) Tryd.underlying24 rfl (by kernel_rfl) rfl)
    (Obs.val (fun a' w' E => ob_fcall 11 _ _ rfl (am1 (E.new (v := (U k)) 13 0 (by kernel_rfl) rfl)) (fc11 _ _) (hF.out w'))
    (Obs.val (fun a' w' E => ob_move (.tmp 14) rfl (E.new (v := (.bool true)) 14 1 (by kernel_rfl) rfl))
    (Obs.gval rfl rfl (fun a' w' E => E.new 15 2 (by kernel_rfl) rfl) (fun a' w' E => ob_loada 24 (.tmp 3) rfl (E.old 3 (by kernel_rfl)) (E.row (g := g1_2) (c := (Ar k)) 0 rfl) Tryd.underlying24 rfl (by kernel_rfl) rfl)
    (Obs.gval rfl rfl (fun a' w' E => E.new 15 2 (by kernel_rfl) rfl) (fun a' w' E => ob_build 24 _ rfl (pm0) (bd24_ w'))
    (Obs.gval rfl rfl (fun a' w' E => E.new 15 2 (by kernel_rfl) rfl) (fun a' w' E => ob_binOp .neq 24 (.tmp 16) (.tmp 17) 24 rfl (E.new (v := (U k)) 16 3 (by kernel_rfl) rfl) (E.new (v := (U 0)) 17 4 (by kernel_rfl) rfl) (by simp [go_sem, hE0]))
    (Obs.val (fun a' w' E => ob_pick (.tmp 15) (.tmp 18) (.const (.bool false)) rfl (E.new (v := (.bool true)) 15 2 (by kernel_rfl) rfl) (E.new (v := (.bool true)) 18 5 (by kernel_rfl) rfl))
    (Obs.val (fun a' w' E => ob_move (.tmp 19) rfl (E.new (v := (.bool true)) 19 6 (by kernel_rfl) rfl))
    (Obs.gval rfl rfl (fun a' w' E => E.new 20 7 (by kernel_rfl) rfl) (fun a' w' E => ob_move (.tmp 5) rfl (E.old 5 (by kernel_rfl)))
    (Obs.gval rfl rfl (fun a' w' E => E.new 20 7 (by kernel_rfl) rfl) (fun a' w' E => ob_binOp .eql 27 (.tmp 21) (.const (.int .i64 0)) 27 rfl (E.new (v := (.int .i64 0)) 21 8 (by kernel_rfl) rfl) (evc a' (.int .i64 0)) (by simp [go_sem]))
    (Obs.val (fun a' w' E => ob_pick (.tmp 20) (.tmp 22) (.const (.bool false)) rfl (E.new (v := (.bool true)) 20 7 (by kernel_rfl) rfl) (E.new (v := (.bool true)) 22 9 (by kernel_rfl) rfl))
    (Obs.val (fun a' w' E => ob_move (.tmp 23) rfl (E.new (v := (.bool true)) 23 10 (by kernel_rfl) rfl))
    (Obs.gval rfl rfl (fun a' w' E => E.new 24 11 (by kernel_rfl) rfl) (fun a' w' E => ob_move (.tmp 4) rfl (E.old 4 (by kernel_rfl)))
    (Obs.gval rfl rfl (fun a' w' E => E.new 24 11 (by kernel_rfl) rfl) (fun a' w' E => ob_val (by simp [opAt, execOp, go_sem, ev (show a'.eval (.tmp 25) = (.string s) from (E.new (v := (.string s)) 25 12 (by kernel_rfl) rfl)), hl]))
    (Obs.gval rfl rfl (fun a' w' E => E.new 24 11 (by kernel_rfl) rfl) (fun a' w' E => ob_binOp .eql 3 (.tmp 26) (.const (.int .i64 20)) 3 rfl (E.new (v := (.int .i64 20)) 26 13 (by kernel_rfl) rfl) (evc a' (.int .i64 20)) (by simp [go_sem]))
    (Obs.val (fun a' w' E => ob_pick (.tmp 24) (.tmp 27) (.const (.bool false)) rfl (E.new (v := (.bool true)) 24 11 (by kernel_rfl) rfl) (E.new (v := (.bool true)) 27 14 (by kernel_rfl) rfl))
    (Obs.val (fun a' w' E => ob_move (.tmp 28) rfl (E.new (v := (.bool true)) 28 15 (by kernel_rfl) rfl))
    (Obs.gval rfl rfl (fun a' w' E => E.new 29 16 (by kernel_rfl) rfl) (fun a' w' E => ob_fcall 18 _ _ rfl (am0) (fc18 _ _) (tbl hW HT.out E.bw w'))
    (Obs.val (fun a' w' E => ob_pick (.tmp 29) (.tmp 30) (.const (.bool false)) rfl (E.new (v := (.bool true)) 29 16 (by kernel_rfl) rfl) (E.new (v := (.bool true)) 30 17 (by kernel_rfl) rfl))
    (Obs.val (fun a' w' E => ob_assign (.tmp 31) rfl (E.new (v := (.bool true)) 31 18 (by kernel_rfl) rfl))
    Obs.nil)))))))))))))))))))) ?_
  intro bs w3 aZ haZ F
  have eZ : aZ = ({ tmps := #[(B n), undef, (.bool true), (PT g1_2), (.string s), (.int .i64 0), (B n), (U k), (.tuple #[(.string s), (.int .i64 0)]), (U k), (.tuple #[(.string s), (.int .i64 0)]), (.string s), (.int .i64 0), (U k), (.bool true), (.bool true), (U k), (U 0), (.bool true), (.bool true), (.bool true), (.int .i64 0), (.bool true), (.bool true), (.bool true), (.string s), (.int .i64 20), (.bool true), (.bool true), (.bool true), (.bool true), (.bool true)], defers := [] } : Act) := haZ.trans (by kernel_rfl)
  subst eZ
  clear haZ
  replace RR : Hid (RB w w3 [(g1_2, (Ar k))]) := ⟨F.bw, (RowsAt.cons (F.row 0 rfl) RowsAt.nil)⟩
  clear F qT q0
  go_wp2
  exact bodyPost_ret (v := (.bool true)) (by simp [results, Tryd.results4, go_sem]) rfl ⟨rfl, RR.out.b⟩
end Go.Proofs.YtpdoonofipcbeaaDoor
