/- Raw walks of CurveLifts, over letters. -/
import Derived.Test.YthbindnkichimaaXlMC
import Derived.Test.YthbindnkichimaaXlQc
import Derived.Test.YthbindnkichimaaXlEq
import Derived.WalkSmall
import Derived.Deep.Cut
import Derived.Deep.Light
namespace Go.Proofs.Ythbindnkichimaa
open Go.RowKit Go.Sort
set_option linter.unusedVariables false
set_option maxRecDepth 100000 in
set_option maxHeartbeats 4000000 in
theorem lifts_Aa (px py x ly : Nat) (pn odd : Bool) (u : Nat) (hu : bits .and .u64 ((l0 ly : Nat) : Int) 1 = (u : Int)) (hu2 : ((u : Int) == 1) = odd) (hL : Does 8 #[(U x), (.bool odd)] (.tuple #[(A9 x ly false), (.bool true)])) (hQ : Does 11 #[(A9 x ly false)] (.bool true)) (hR : Does 11 #[(A9 px py pn)] (.bool false)) (hW : Does 18 #[] (.bool true)) (hE0 : ∀ w, (Op.equalIn 10000 24 (U x) (U x)).run Try.prog w = .ok true w) (hE1 : ∀ w, (Op.equalIn 10000 24 (U ly) (U 0)).run Try.prog w = .ok false w)
    (w : World) : Calls Try.prog 7 #[(A9 px py pn), (U x), (.bool odd)] w fun e w' => e = .returned (.bool true) ∧ Below w.heap.size w w' := by
  go_enter Try.func7, Try.ntmps7
  go_upto_region 1 with fail
  refine name_world _ ?_
  intro wF hF0
  have RR : Hid (RB w wF [(w.heap.size + 1, (Ar x)), (w.heap.size, (P9 px py pn))]) := by rw [hF0]; exact (rbN (rbN (rb0 w) (by simp)) (by simp))
  clear hF0
  obtain ⟨q1, q0, qT⟩ := RR.out.r.lts
  refine wp_region_told (by kernel_rfl) (by kernel_rfl) (by kernel_rfl) [(w.heap.size, (P9 px py pn)), (w.heap.size + 1, (Ar x))]
    [sV (U x),
     sV (.bool odd),
     sV (.tuple #[(A9 x ly false), (.bool true)]),
     sV (.tuple #[(A9 x ly false), (.bool true)]),
     sV (A9 x ly false),
     sV (.bool true),
     sA (fun g => .pointer (some ⟨g, 0, none⟩)) 7 Z9 (P9 x ly false),
     sS 6,
     sV (.bool true)]
    (by kernel_rfl) RR.out.b (RowsAt.cons (RR.out.at 1 rfl) (RowsAt.cons (RR.out.at 0 rfl) RowsAt.nil)) (StOk.of [] rfl StM.nil)
    (Obs.val (fun a' w' E => ob_loada 24 (.tmp 4) rfl (E.old 4 (by kernel_rfl)) (E.row (g := w.heap.size + 1) (c := (Ar x)) 1 rfl) Try.underlying24 rfl (by kernel_rfl) rfl)
    (Obs.val (fun a' w' E => ob_move (.tmp 2) rfl (E.old 2 (by kernel_rfl)))
    (Obs.val (fun a' w' E => ob_fcall 8 _ _ rfl (am2 (E.new (v := (U x)) 12 0 (by kernel_rfl) rfl) (E.new (v := (.bool odd)) 13 1 (by kernel_rfl) rfl)) (fc8 _ _) (hL.out w'))
    (Obs.val (fun a' w' E => ob_move (.tmp 14) rfl (E.new (v := (.tuple #[(A9 x ly false), (.bool true)])) 14 2 (by kernel_rfl) rfl))
    (Obs.val (fun a' w' E => ob_extract (.tmp 11) 0 rfl (E.new (v := (.tuple #[(A9 x ly false), (.bool true)])) 11 3 (by kernel_rfl) rfl) rfl)
    (Obs.val (fun a' w' E => ob_extract (.tmp 11) 1 rfl (E.new (v := (.tuple #[(A9 x ly false), (.bool true)])) 11 3 (by kernel_rfl) rfl) rfl)
    (Obs.alloc (fun a' w' E => ob_alloc (t := 26) (by simp [opAt, execOp, go_sem]))
    (Obs.sta rfl (fun a' w' g E ha hr => ob_storea 26 (.tmp 7) (.tmp 15) rfl (ha 7 (by kernel_rfl)) (E.new (v := (A9 x ly false)) 15 4 (by kernel_rfl) rfl) rfl hr (by kernel_rfl) (Nat.le_of_ble_eq_true rfl) (by kernel_rfl) rfl)
    (Obs.val (fun a' w' E => ob_assign (.tmp 16) rfl (E.new (v := (.bool true)) 16 5 (by kernel_rfl) rfl))
    Obs.nil))))))))) ?_
  intro bs w1 aZ haZ F
  have eZ : aZ = ({ tmps := #[(A9 px py pn), (U x), (.bool odd), (PT w.heap.size), (PT (w.heap.size + 1)), undef, (.bool false), (PT ((bs 6))), (.bool true), undef, undef, (.tuple #[(A9 x ly false), (.bool true)]), (U x), (.bool odd), (.tuple #[(A9 x ly false), (.bool true)]), (A9 x ly false), (.bool true), undef, undef, undef, undef, undef, undef, undef, undef, undef, undef, undef, undef, undef, undef, undef, undef, undef, undef, undef, undef, undef, undef, undef, undef, undef, undef, undef, undef, undef, undef, undef, undef, undef, undef, undef, undef, undef, undef, undef, undef, undef, undef, undef, undef, undef, undef, undef, undef, undef, undef, undef, undef, undef, undef, undef, undef, undef, undef, undef, undef, undef, undef, undef, undef, undef, undef, undef, undef], defers := [] } : Act) := haZ.trans (by kernel_rfl)
  subst eZ
  clear haZ
  obtain ⟨h6, X6⟩ := F.al 6 rfl rfl
  replace RR : Hid (RB w w1 [((bs 6), (P9 x ly false)), (w.heap.size + 1, (Ar x)), (w.heap.size, (P9 px py pn))]) := ⟨F.bw, (RowsAt.cons X6 (RowsAt.cons (F.row 1 rfl) (RowsAt.cons (F.row 0 rfl) RowsAt.nil)))⟩
  generalize bs 6 = g1_6 at *
  have k1_6_0 := Nat.lt_of_lt_of_le q0 h6
  have k1_6_1 := Nat.lt_of_lt_of_le q1 h6
  clear F qT q0 q1 h6 X6
  clear wF
  go_upto_region 2 with fail
  obtain ⟨q2, q1, q0, qT⟩ := RR.out.r.lts
  refine wp_region_told (by kernel_rfl) (by kernel_rfl) (by kernel_rfl) [(w.heap.size, (P9 px py pn)), (w.heap.size + 1, (Ar x)), (g1_6, (P9 x ly false))]
    [sV (.bool true),
     sV (.bool true),
     sV (A9 x ly false),
     sV (.bool true),
     sV (.bool false),
     sV (.bool false),
     sV (PT g1_6),
     sV (U x),
     sV (U x),
     sV (.bool false),
     sV (.bool false),
     sV (.bool false),
     sV (PO g1_6 8),
     sV (.bool false),
     sV (.bool false),
     sV (.bool false),
     sV (PO g1_6 4),
     sV (U ly),
     sV (U 0),
     sV (.bool true),
     sV (.bool true),
     sV (PO g1_6 4),
     sV (PO g1_6 4),
     sV (B (l0 ly)),
     sV (B u),
     sV (.bool odd),
     sV (.bool odd),
     sV (.bool false),
     sV (.bool false),
     sV (.bool false),
     sV (.bool false),
     sV (.bool false),
     sV (.bool true),
     sV (.bool false),
     sV (.bool false),
     sV undef,
     sV undef,
     sV undef,
     sV (.bool false),
     sV (.bool false)]
    (by kernel_rfl) RR.out.b (RowsAt.cons (RR.out.at 2 rfl) (RowsAt.cons (RR.out.at 1 rfl) (RowsAt.cons (RR.out.at 0 rfl) RowsAt.nil))) (StOk.of [] rfl StM.nil)
    (Obs.val (fun a' w' E => ob_move (.tmp 8) rfl (E.old 8 (by kernel_rfl)))
    (Obs.val (fun a' w' E => ob_move (.tmp 17) rfl (E.new (v := (.bool true)) 17 0 (by kernel_rfl) rfl))
    (Obs.gval rfl rfl (fun a' w' E => E.new 18 1 (by kernel_rfl) rfl) (fun a' w' E => ob_loada 26 (.tmp 7) rfl (E.old 7 (by kernel_rfl)) (E.row (g := g1_6) (c := (P9 x ly false)) 2 rfl) Try.underlying26 rfl (by kernel_rfl) rfl)
    (Obs.gval rfl rfl (fun a' w' E => E.new 18 1 (by kernel_rfl) rfl) (fun a' w' E => ob_fcall 11 _ _ rfl (am1 (E.new (v := (A9 x ly false)) 19 2 (by kernel_rfl) rfl)) (fc11 _ _) (hQ.out w'))
    (Obs.gval rfl rfl (fun a' w' E => E.new 18 1 (by kernel_rfl) rfl) (fun a' w' E => ob_unOp .not 4 (.tmp 20) rfl (E.new (v := (.bool true)) 20 3 (by kernel_rfl) rfl) (by simp [go_sem]))
    (Obs.gval rfl rfl (fun a' w' E => E.new 18 1 (by kernel_rfl) rfl) (fun a' w' E => ob_move (.tmp 21) rfl (E.new (v := (.bool false)) 21 4 (by kernel_rfl) rfl))
    (Obs.gval rfl rfl (fun a' w' E => E.new 22 5 (by kernel_rfl) rfl) (fun a' w' E => ob_fieldAddr 26 (.tmp 7) 0 rfl (E.old 7 (by kernel_rfl)) (fa26_0 _ _ w'))
    (Obs.gval rfl rfl (fun a' w' E => E.new 22 5 (by kernel_rfl) rfl) (fun a' w' E => ob_loada 24 (.tmp 23) rfl (E.new (v := (PT g1_6)) 23 6 (by kernel_rfl) rfl) (E.row (g := g1_6) (c := (P9 x ly false)) 2 rfl) Try.underlying24 rfl (by kernel_rfl) rfl)
    (Obs.gval rfl rfl (fun a' w' E => E.new 22 5 (by kernel_rfl) rfl) (fun a' w' E => ob_loada 24 (.tmp 4) rfl (E.old 4 (by kernel_rfl)) (E.row (g := w.heap.size + 1) (c := (Ar x)) 1 rfl) Try.underlying24 rfl (by kernel_rfl) rfl)
    (Obs.gval rfl rfl (fun a' w' E => E.new 22 5 (by kernel_rfl) rfl) (fun a' w' E => ob_binOp .neq 24 (.tmp 24) (.tmp 25) 24 rfl (E.new (v := (U x)) 24 7 (by kernel_rfl) rfl) (E.new (v := (U x)) 25 8 (by kernel_rfl) rfl) (by simp [go_sem, hE0]))
    (Obs.gval rfl rfl (fun a' w' E => E.new 18 1 (by kernel_rfl) rfl) (fun a' w' E => ob_pick (.tmp 22) (.const (.bool true)) (.tmp 26) rfl (E.new (v := (.bool false)) 22 5 (by kernel_rfl) rfl) (E.new (v := (.bool false)) 26 9 (by kernel_rfl) rfl))
    (Obs.gval rfl rfl (fun a' w' E => E.new 18 1 (by kernel_rfl) rfl) (fun a' w' E => ob_move (.tmp 27) rfl (E.new (v := (.bool false)) 27 10 (by kernel_rfl) rfl))
    (Obs.gval rfl rfl (fun a' w' E => E.new 28 11 (by kernel_rfl) rfl) (fun a' w' E => ob_fieldAddr 26 (.tmp 7) 2 rfl (E.old 7 (by kernel_rfl)) (fa26_2 _ _ w'))
    (Obs.gval rfl rfl (fun a' w' E => E.new 28 11 (by kernel_rfl) rfl) (fun a' w' E => ob_load1 4 (.tmp 29) rfl (E.new (v := (PO g1_6 8)) 29 12 (by kernel_rfl) rfl) (E.row (g := g1_6) (c := (P9 x ly false)) 2 rfl) Try.underlying4 rfl rfl)
    (Obs.gval rfl rfl (fun a' w' E => E.new 18 1 (by kernel_rfl) rfl) (fun a' w' E => ob_pick (.tmp 28) (.const (.bool true)) (.tmp 30) rfl (E.new (v := (.bool false)) 28 11 (by kernel_rfl) rfl) (E.new (v := (.bool false)) 30 13 (by kernel_rfl) rfl))
    (Obs.gval rfl rfl (fun a' w' E => E.new 18 1 (by kernel_rfl) rfl) (fun a' w' E => ob_move (.tmp 31) rfl (E.new (v := (.bool false)) 31 14 (by kernel_rfl) rfl))
    (Obs.gval rfl rfl (fun a' w' E => E.new 32 15 (by kernel_rfl) rfl) (fun a' w' E => ob_fieldAddr 26 (.tmp 7) 1 rfl (E.old 7 (by kernel_rfl)) (fa26_1 _ _ w'))
    (Obs.gval rfl rfl (fun a' w' E => E.new 32 15 (by kernel_rfl) rfl) (fun a' w' E => ob_loada 24 (.tmp 33) rfl (E.new (v := (PO g1_6 4)) 33 16 (by kernel_rfl) rfl) (E.row (g := g1_6) (c := (P9 x ly false)) 2 rfl) Try.underlying24 rfl (by kernel_rfl) rfl)
    (Obs.gval rfl rfl (fun a' w' E => E.new 32 15 (by kernel_rfl) rfl) (fun a' w' E => ob_build 24 _ rfl (pm0) (bd24_ w'))
    (Obs.gval rfl rfl (fun a' w' E => E.new 32 15 (by kernel_rfl) rfl) (fun a' w' E => ob_binOp .neq 24 (.tmp 34) (.tmp 35) 24 rfl (E.new (v := (U ly)) 34 17 (by kernel_rfl) rfl) (E.new (v := (U 0)) 35 18 (by kernel_rfl) rfl) (by simp [go_sem, hE1]))
    (Obs.gval rfl rfl (fun a' w' E => E.new 32 15 (by kernel_rfl) rfl) (fun a' w' E => ob_move (.tmp 36) rfl (E.new (v := (.bool true)) 36 19 (by kernel_rfl) rfl))
    (Obs.gval rfl rfl (fun a' w' E => E.new 37 20 (by kernel_rfl) rfl) (fun a' w' E => ob_fieldAddr 26 (.tmp 7) 1 rfl (E.old 7 (by kernel_rfl)) (fa26_1 _ _ w'))
    (Obs.gval rfl rfl (fun a' w' E => E.new 37 20 (by kernel_rfl) rfl) (fun a' w' E => ob_indexAddr 24 (.tmp 38) (.const (.int .i64 0)) rfl (E.new (v := (PO g1_6 4)) 38 21 (by kernel_rfl) rfl) (evc a' (.int .i64 0)) (ix24_0 _ _ w'))
    (Obs.gval rfl rfl (fun a' w' E => E.new 37 20 (by kernel_rfl) rfl) (fun a' w' E => ob_load1 22 (.tmp 39) rfl (E.new (v := (PO g1_6 4)) 39 22 (by kernel_rfl) rfl) (E.row (g := g1_6) (c := (P9 x ly false)) 2 rfl) Try.underlying22 rfl rfl)
    (Obs.gval rfl rfl (fun a' w' E => E.new 37 20 (by kernel_rfl) rfl) (fun a' w' E => ob_binOp .and 22 (.tmp 40) (.const (.int .u64 1)) 22 rfl (E.new (v := (B (l0 ly))) 40 23 (by kernel_rfl) rfl) (evc a' (.int .u64 1)) (by simp [go_sem, hu]))
    (Obs.gval rfl rfl (fun a' w' E => E.new 37 20 (by kernel_rfl) rfl) (fun a' w' E => ob_binOp .eql 22 (.tmp 41) (.const (.int .u64 1)) 22 rfl (E.new (v := (B u)) 41 24 (by kernel_rfl) rfl) (evc a' (.int .u64 1)) (by simp [go_sem, hu2]))
    (Obs.gval rfl rfl (fun a' w' E => E.new 37 20 (by kernel_rfl) rfl) (fun a' w' E => ob_move (.tmp 2) rfl (E.old 2 (by kernel_rfl)))
    (Obs.gval rfl rfl (fun a' w' E => E.new 37 20 (by kernel_rfl) rfl) (fun a' w' E => ob_binOp .neq 4 (.tmp 42) (.tmp 43) 4 rfl (E.new (v := (.bool odd)) 42 25 (by kernel_rfl) rfl) (E.new (v := (.bool odd)) 43 26 (by kernel_rfl) rfl) (by simp [go_sem]))
    (Obs.gval rfl rfl (fun a' w' E => E.new 32 15 (by kernel_rfl) rfl) (fun a' w' E => ob_pick (.tmp 37) (.tmp 44) (.const (.bool false)) rfl (E.new (v := (.bool true)) 37 20 (by kernel_rfl) rfl) (E.new (v := (.bool false)) 44 27 (by kernel_rfl) rfl))
    (Obs.gval rfl rfl (fun a' w' E => E.new 18 1 (by kernel_rfl) rfl) (fun a' w' E => ob_pick (.tmp 32) (.const (.bool true)) (.tmp 45) rfl (E.new (v := (.bool false)) 32 15 (by kernel_rfl) rfl) (E.new (v := (.bool false)) 45 28 (by kernel_rfl) rfl))
    (Obs.val (fun a' w' E => ob_pick (.tmp 18) (.tmp 46) (.const (.bool false)) rfl (E.new (v := (.bool true)) 18 1 (by kernel_rfl) rfl) (E.new (v := (.bool false)) 46 29 (by kernel_rfl) rfl))
    (Obs.val (fun a' w' E => ob_move (.tmp 47) rfl (E.new (v := (.bool false)) 47 30 (by kernel_rfl) rfl))
    (Obs.gval rfl rfl (fun a' w' E => E.new 48 31 (by kernel_rfl) rfl) (fun a' w' E => ob_move (.tmp 8) rfl (E.old 8 (by kernel_rfl)))
    (Obs.gval rfl rfl (fun a' w' E => E.new 48 31 (by kernel_rfl) rfl) (fun a' w' E => ob_unOp .not 4 (.tmp 49) rfl (E.new (v := (.bool true)) 49 32 (by kernel_rfl) rfl) (by simp [go_sem]))
    (Obs.gval rfl rfl (fun a' w' E => E.new 48 31 (by kernel_rfl) rfl) (fun a' w' E => ob_move (.tmp 50) rfl (E.new (v := (.bool false)) 50 33 (by kernel_rfl) rfl))
    (Obs.skip rfl rfl (fun a' w' E => E.new 51 34 (by kernel_rfl) rfl) (by decide) 
    (Obs.skip rfl rfl (fun a' w' E => E.new 51 34 (by kernel_rfl) rfl) (by decide) 
    (Obs.skip rfl rfl (fun a' w' E => E.new 51 34 (by kernel_rfl) rfl) (by decide) 
    (Obs.gval rfl rfl (fun a' w' E => E.new 48 31 (by kernel_rfl) rfl) (fun a' w' E => ob_pick (.tmp 51) (.tmp 54) (.const (.bool false)) rfl (E.new (v := (.bool false)) 51 34 (by kernel_rfl) rfl) (evc a' (.bool false)))
    (Obs.val (fun a' w' E => ob_pick (.tmp 48) (.const (.bool true)) (.tmp 55) rfl (E.new (v := (.bool false)) 48 31 (by kernel_rfl) rfl) (E.new (v := (.bool false)) 55 38 (by kernel_rfl) rfl))
    Obs.nil)))))))))))))))))))))))))))))))))))))))) ?_
  intro bs w2 aZ haZ F
  have eZ : aZ = ({ tmps := #[(A9 px py pn), (U x), (.bool odd), (PT w.heap.size), (PT (w.heap.size + 1)), undef, (.bool false), (PT g1_6), (.bool true), undef, undef, (.tuple #[(A9 x ly false), (.bool true)]), (U x), (.bool odd), (.tuple #[(A9 x ly false), (.bool true)]), (A9 x ly false), (.bool true), (.bool true), (.bool true), (A9 x ly false), (.bool true), (.bool false), (.bool false), (PT g1_6), (U x), (U x), (.bool false), (.bool false), (.bool false), (PO g1_6 8), (.bool false), (.bool false), (.bool false), (PO g1_6 4), (U ly), (U 0), (.bool true), (.bool true), (PO g1_6 4), (PO g1_6 4), (B (l0 ly)), (B u), (.bool odd), (.bool odd), (.bool false), (.bool false), (.bool false), (.bool false), (.bool false), (.bool true), (.bool false), (.bool false), undef, undef, undef, (.bool false), (.bool false), undef, undef, undef, undef, undef, undef, undef, undef, undef, undef, undef, undef, undef, undef, undef, undef, undef, undef, undef, undef, undef, undef, undef, undef, undef, undef, undef, undef], defers := [] } : Act) := haZ.trans (by kernel_rfl)
  subst eZ
  clear haZ
  replace RR : Hid (RB w w2 [(g1_6, (P9 x ly false)), (w.heap.size + 1, (Ar x)), (w.heap.size, (P9 px py pn))]) := ⟨F.bw, (RowsAt.cons (F.row 2 rfl) (RowsAt.cons (F.row 1 rfl) (RowsAt.cons (F.row 0 rfl) RowsAt.nil)))⟩
  clear F qT q0 q1 q2
  go_upto_region 4 with fail
  obtain ⟨q2, q1, q0, qT⟩ := RR.out.r.lts
  refine wp_region_told (by kernel_rfl) (by kernel_rfl) (by kernel_rfl) [(w.heap.size, (P9 px py pn)), (w.heap.size + 1, (Ar x)), (g1_6, (P9 x ly false))]
    [sV (A9 px py pn),
     sV (.bool false),
     sV (.bool true),
     sV (.bool true),
     sV undef,
     sV undef,
     sV (.bool true)]
    (by kernel_rfl) RR.out.b (RowsAt.cons (RR.out.at 2 rfl) (RowsAt.cons (RR.out.at 1 rfl) (RowsAt.cons (RR.out.at 0 rfl) RowsAt.nil))) (StOk.of [] rfl StM.nil)
    (Obs.val (fun a' w' E => ob_loada 26 (.tmp 3) rfl (E.old 3 (by kernel_rfl)) (E.row (g := w.heap.size) (c := (P9 px py pn)) 0 rfl) Try.underlying26 rfl (by kernel_rfl) rfl)
    (Obs.val (fun a' w' E => ob_fcall 11 _ _ rfl (am1 (E.new (v := (A9 px py pn)) 57 0 (by kernel_rfl) rfl)) (fc11 _ _) (hR.out w'))
    (Obs.val (fun a' w' E => ob_unOp .not 4 (.tmp 58) rfl (E.new (v := (.bool false)) 58 1 (by kernel_rfl) rfl) (by simp [go_sem]))
    (Obs.val (fun a' w' E => ob_move (.tmp 59) rfl (E.new (v := (.bool true)) 59 2 (by kernel_rfl) rfl))
    (Obs.skip rfl rfl (fun a' w' E => E.new 60 3 (by kernel_rfl) rfl) (by decide) 
    (Obs.skip rfl rfl (fun a' w' E => E.new 60 3 (by kernel_rfl) rfl) (by decide) 
    (Obs.val (fun a' w' E => ob_pick (.tmp 60) (.const (.bool true)) (.tmp 62) rfl (E.new (v := (.bool true)) 60 3 (by kernel_rfl) rfl) (evc a' (.bool true)))
    Obs.nil))))))) ?_
  intro bs w3 aZ haZ F
  have eZ : aZ = ({ tmps := #[(A9 px py pn), (U x), (.bool odd), (PT w.heap.size), (PT (w.heap.size + 1)), undef, (.bool false), (PT g1_6), (.bool true), undef, undef, (.tuple #[(A9 x ly false), (.bool true)]), (U x), (.bool odd), (.tuple #[(A9 x ly false), (.bool true)]), (A9 x ly false), (.bool true), (.bool true), (.bool true), (A9 x ly false), (.bool true), (.bool false), (.bool false), (PT g1_6), (U x), (U x), (.bool false), (.bool false), (.bool false), (PO g1_6 8), (.bool false), (.bool false), (.bool false), (PO g1_6 4), (U ly), (U 0), (.bool true), (.bool true), (PO g1_6 4), (PO g1_6 4), (B (l0 ly)), (B u), (.bool odd), (.bool odd), (.bool false), (.bool false), (.bool false), (.bool false), (.bool false), (.bool true), (.bool false), (.bool false), undef, undef, undef, (.bool false), (.bool false), (A9 px py pn), (.bool false), (.bool true), (.bool true), undef, undef, (.bool true), undef, undef, undef, undef, undef, undef, undef, undef, undef, undef, undef, undef, undef, undef, undef, undef, undef, undef, undef, undef, undef], defers := [] } : Act) := haZ.trans (by kernel_rfl)
  subst eZ
  clear haZ
  replace RR : Hid (RB w w3 [(g1_6, (P9 x ly false)), (w.heap.size + 1, (Ar x)), (w.heap.size, (P9 px py pn))]) := ⟨F.bw, (RowsAt.cons (F.row 2 rfl) (RowsAt.cons (F.row 1 rfl) (RowsAt.cons (F.row 0 rfl) RowsAt.nil)))⟩
  clear F qT q0 q1 q2
  go_upto_region 5 with fail
  obtain ⟨q2, q1, q0, qT⟩ := RR.out.r.lts
  refine wp_region_told (by kernel_rfl) (by kernel_rfl) (by kernel_rfl) [(w.heap.size, (P9 px py pn)), (w.heap.size + 1, (Ar x)), (g1_6, (P9 x ly false))]
    [sV (.bool true),
     sV (.bool true)]
    (by kernel_rfl) RR.out.b (RowsAt.cons (RR.out.at 2 rfl) (RowsAt.cons (RR.out.at 1 rfl) (RowsAt.cons (RR.out.at 0 rfl) RowsAt.nil))) (StOk.of [] rfl StM.nil)
    (Obs.val (fun a' w' E => ob_fcall 18 _ _ rfl (am0) (fc18 _ _) (hW.out w'))
    (Obs.val (fun a' w' E => ob_assign (.tmp 64) rfl (E.new (v := (.bool true)) 64 0 (by kernel_rfl) rfl))
    Obs.nil)) ?_
  intro bs w4 aZ haZ F
  have eZ : aZ = ({ tmps := #[(A9 px py pn), (U x), (.bool odd), (PT w.heap.size), (PT (w.heap.size + 1)), undef, (.bool true), (PT g1_6), (.bool true), undef, undef, (.tuple #[(A9 x ly false), (.bool true)]), (U x), (.bool odd), (.tuple #[(A9 x ly false), (.bool true)]), (A9 x ly false), (.bool true), (.bool true), (.bool true), (A9 x ly false), (.bool true), (.bool false), (.bool false), (PT g1_6), (U x), (U x), (.bool false), (.bool false), (.bool false), (PO g1_6 8), (.bool false), (.bool false), (.bool false), (PO g1_6 4), (U ly), (U 0), (.bool true), (.bool true), (PO g1_6 4), (PO g1_6 4), (B (l0 ly)), (B u), (.bool odd), (.bool odd), (.bool false), (.bool false), (.bool false), (.bool false), (.bool false), (.bool true), (.bool false), (.bool false), undef, undef, undef, (.bool false), (.bool false), (A9 px py pn), (.bool false), (.bool true), (.bool true), undef, undef, (.bool true), (.bool true), undef, undef, undef, undef, undef, undef, undef, undef, undef, undef, undef, undef, undef, undef, undef, undef, undef, undef, undef, undef], defers := [] } : Act) := haZ.trans (by kernel_rfl)
  subst eZ
  clear haZ
  replace RR : Hid (RB w w4 [(g1_6, (P9 x ly false)), (w.heap.size + 1, (Ar x)), (w.heap.size, (P9 px py pn))]) := ⟨F.bw, (RowsAt.cons (F.row 2 rfl) (RowsAt.cons (F.row 1 rfl) (RowsAt.cons (F.row 0 rfl) RowsAt.nil)))⟩
  clear F qT q0 q1 q2
  go_wp2
  exact bodyPost_ret (v := (.bool true)) (by simp [results, Try.results7, go_sem]) rfl ⟨rfl, RR.out.b⟩
set_option maxRecDepth 100000 in
set_option maxHeartbeats 4000000 in
theorem lifts_Ab (px py x ly : Nat) (odd : Bool) (u : Nat) (hu : bits .and .u64 ((l0 ly : Nat) : Int) 1 = (u : Int)) (hu2 : ((u : Int) == 1) = odd) (hL : Does 8 #[(U x), (.bool odd)] (.tuple #[(A9 x ly false), (.bool true)])) (hQ : Does 11 #[(A9 x ly false)] (.bool true)) (hR : Does 11 #[(A9 px py true)] (.bool true)) (hW : Does 18 #[] (.bool true)) (hE0 : ∀ w, (Op.equalIn 10000 24 (U x) (U x)).run Try.prog w = .ok true w) (hE1 : ∀ w, (Op.equalIn 10000 24 (U ly) (U 0)).run Try.prog w = .ok false w)
    (w : World) : Calls Try.prog 7 #[(A9 px py true), (U x), (.bool odd)] w fun e w' => e = .returned (.bool true) ∧ Below w.heap.size w w' := by
  go_enter Try.func7, Try.ntmps7
  go_upto_region 1 with fail
  refine name_world _ ?_
  intro wF hF0
  have RR : Hid (RB w wF [(w.heap.size + 1, (Ar x)), (w.heap.size, (P9 px py true))]) := by rw [hF0]; exact (rbN (rbN (rb0 w) (by simp)) (by simp))
  clear hF0
  obtain ⟨q1, q0, qT⟩ := RR.out.r.lts
  refine wp_region_told (by kernel_rfl) (by kernel_rfl) (by kernel_rfl) [(w.heap.size, (P9 px py true)), (w.heap.size + 1, (Ar x))]
    [sV (U x),
     sV (.bool odd),
     sV (.tuple #[(A9 x ly false), (.bool true)]),
     sV (.tuple #[(A9 x ly false), (.bool true)]),
     sV (A9 x ly false),
     sV (.bool true),
     sA (fun g => .pointer (some ⟨g, 0, none⟩)) 7 Z9 (P9 x ly false),
     sS 6,
     sV (.bool true)]
    (by kernel_rfl) RR.out.b (RowsAt.cons (RR.out.at 1 rfl) (RowsAt.cons (RR.out.at 0 rfl) RowsAt.nil)) (StOk.of [] rfl StM.nil)
    (Obs.val (fun a' w' E => ob_loada 24 (.tmp 4) rfl (E.old 4 (by kernel_rfl)) (E.row (g := w.heap.size + 1) (c := (Ar x)) 1 rfl) Try.underlying24 rfl (by kernel_rfl) rfl)
    (Obs.val (fun a' w' E => ob_move (.tmp 2) rfl (E.old 2 (by kernel_rfl)))
    (Obs.val (fun a' w' E => ob_fcall 8 _ _ rfl (am2 (E.new (v := (U x)) 12 0 (by kernel_rfl) rfl) (E.new (v := (.bool odd)) 13 1 (by kernel_rfl) rfl)) (fc8 _ _) (hL.out w'))
    (Obs.val (fun a' w' E => ob_move (.tmp 14) rfl (E.new (v := (.tuple #[(A9 x ly false), (.bool true)])) 14 2 (by kernel_rfl) rfl))
    (Obs.val (fun a' w' E => ob_extract (.tmp 11) 0 rfl (E.new (v := (.tuple #[(A9 x ly false), (.bool true)])) 11 3 (by kernel_rfl) rfl) rfl)
    (Obs.val (fun a' w' E => ob_extract (.tmp 11) 1 rfl (E.new (v := (.tuple #[(A9 x ly false), (.bool true)])) 11 3 (by kernel_rfl) rfl) rfl)
    (Obs.alloc (fun a' w' E => ob_alloc (t := 26) (by simp [opAt, execOp, go_sem]))
    (Obs.sta rfl (fun a' w' g E ha hr => ob_storea 26 (.tmp 7) (.tmp 15) rfl (ha 7 (by kernel_rfl)) (E.new (v := (A9 x ly false)) 15 4 (by kernel_rfl) rfl) rfl hr (by kernel_rfl) (Nat.le_of_ble_eq_true rfl) (by kernel_rfl) rfl)
    (Obs.val (fun a' w' E => ob_assign (.tmp 16) rfl (E.new (v := (.bool true)) 16 5 (by kernel_rfl) rfl))
    Obs.nil))))))))) ?_
  intro bs w1 aZ haZ F
  have eZ : aZ = ({ tmps := #[(A9 px py true), (U x), (.bool odd), (PT w.heap.size), (PT (w.heap.size + 1)), undef, (.bool false), (PT ((bs 6))), (.bool true), undef, undef, (.tuple #[(A9 x ly false), (.bool true)]), (U x), (.bool odd), (.tuple #[(A9 x ly false), (.bool true)]), (A9 x ly false), (.bool true), undef, undef, undef, undef, undef, undef, undef, undef, undef, undef, undef, undef, undef, undef, undef, undef, undef, undef, undef, undef, undef, undef, undef, undef, undef, undef, undef, undef, undef, undef, undef, undef, undef, undef, undef, undef, undef, undef, undef, undef, undef, undef, undef, undef, undef, undef, undef, undef, undef, undef, undef, undef, undef, undef, undef, undef, undef, undef, undef, undef, undef, undef, undef, undef, undef, undef, undef, undef], defers := [] } : Act) := haZ.trans (by kernel_rfl)
  subst eZ
  clear haZ
  obtain ⟨h6, X6⟩ := F.al 6 rfl rfl
  replace RR : Hid (RB w w1 [((bs 6), (P9 x ly false)), (w.heap.size + 1, (Ar x)), (w.heap.size, (P9 px py true))]) := ⟨F.bw, (RowsAt.cons X6 (RowsAt.cons (F.row 1 rfl) (RowsAt.cons (F.row 0 rfl) RowsAt.nil)))⟩
  generalize bs 6 = g1_6 at *
  have k1_6_0 := Nat.lt_of_lt_of_le q0 h6
  have k1_6_1 := Nat.lt_of_lt_of_le q1 h6
  clear F qT q0 q1 h6 X6
  clear wF
  go_upto_region 2 with fail
  obtain ⟨q2, q1, q0, qT⟩ := RR.out.r.lts
  refine wp_region_told (by kernel_rfl) (by kernel_rfl) (by kernel_rfl) [(w.heap.size, (P9 px py true)), (w.heap.size + 1, (Ar x)), (g1_6, (P9 x ly false))]
    [sV (.bool true),
     sV (.bool true),
     sV (A9 x ly false),
     sV (.bool true),
     sV (.bool false),
     sV (.bool false),
     sV (PT g1_6),
     sV (U x),
     sV (U x),
     sV (.bool false),
     sV (.bool false),
     sV (.bool false),
     sV (PO g1_6 8),
     sV (.bool false),
     sV (.bool false),
     sV (.bool false),
     sV (PO g1_6 4),
     sV (U ly),
     sV (U 0),
     sV (.bool true),
     sV (.bool true),
     sV (PO g1_6 4),
     sV (PO g1_6 4),
     sV (B (l0 ly)),
     sV (B u),
     sV (.bool odd),
     sV (.bool odd),
     sV (.bool false),
     sV (.bool false),
     sV (.bool false),
     sV (.bool false),
     sV (.bool false),
     sV (.bool true),
     sV (.bool false),
     sV (.bool false),
     sV undef,
     sV undef,
     sV undef,
     sV (.bool false),
     sV (.bool false)]
    (by kernel_rfl) RR.out.b (RowsAt.cons (RR.out.at 2 rfl) (RowsAt.cons (RR.out.at 1 rfl) (RowsAt.cons (RR.out.at 0 rfl) RowsAt.nil))) (StOk.of [] rfl StM.nil)
    (Obs.val (fun a' w' E => ob_move (.tmp 8) rfl (E.old 8 (by kernel_rfl)))
    (Obs.val (fun a' w' E => ob_move (.tmp 17) rfl (E.new (v := (.bool true)) 17 0 (by kernel_rfl) rfl))
    (Obs.gval rfl rfl (fun a' w' E => E.new 18 1 (by kernel_rfl) rfl) (fun a' w' E => ob_loada 26 (.tmp 7) rfl (E.old 7 (by kernel_rfl)) (E.row (g := g1_6) (c := (P9 x ly false)) 2 rfl) Try.underlying26 rfl (by kernel_rfl) rfl)
    (Obs.gval rfl rfl (fun a' w' E => E.new 18 1 (by kernel_rfl) rfl) (fun a' w' E => ob_fcall 11 _ _ rfl (am1 (E.new (v := (A9 x ly false)) 19 2 (by kernel_rfl) rfl)) (fc11 _ _) (hQ.out w'))
    (Obs.gval rfl rfl (fun a' w' E => E.new 18 1 (by kernel_rfl) rfl) (fun a' w' E => ob_unOp .not 4 (.tmp 20) rfl (E.new (v := (.bool true)) 20 3 (by kernel_rfl) rfl) (by simp [go_sem]))
    (Obs.gval rfl rfl (fun a' w' E => E.new 18 1 (by kernel_rfl) rfl) (fun a' w' E => ob_move (.tmp 21) rfl (E.new (v := (.bool false)) 21 4 (by kernel_rfl) rfl))
    (Obs.gval rfl rfl (fun a' w' E => E.new 22 5 (by kernel_rfl) rfl) (fun a' w' E => ob_fieldAddr 26 (.tmp 7) 0 rfl (E.old 7 (by kernel_rfl)) (fa26_0 _ _ w'))
    (Obs.gval rfl rfl (fun a' w' E => E.new 22 5 (by kernel_rfl) rfl) (fun a' w' E => ob_loada 24 (.tmp 23) rfl (E.new (v := (PT g1_6)) 23 6 (by kernel_rfl) rfl) (E.row (g := g1_6) (c := (P9 x ly false)) 2 rfl) Try.underlying24 rfl (by kernel_rfl) rfl)
    (Obs.gval rfl rfl (fun a' w' E => E.new 22 5 (by kernel_rfl) rfl) (fun a' w' E => ob_loada 24 (.tmp 4) rfl (E.old 4 (by kernel_rfl)) (E.row (g := w.heap.size + 1) (c := (Ar x)) 1 rfl) Try.underlying24 rfl (by kernel_rfl) rfl)
    (Obs.gval rfl rfl (fun a' w' E => E.new 22 5 (by kernel_rfl) rfl) (fun a' w' E => ob_binOp .neq 24 (.tmp 24) (.tmp 25) 24 rfl (E.new (v := (U x)) 24 7 (by kernel_rfl) rfl) (E.new (v := (U x)) 25 8 (by kernel_rfl) rfl) (by simp [go_sem, hE0]))
    (Obs.gval rfl rfl (fun a' w' E => E.new 18 1 (by kernel_rfl) rfl) (fun a' w' E => ob_pick (.tmp 22) (.const (.bool true)) (.tmp 26) rfl (E.new (v := (.bool false)) 22 5 (by kernel_rfl) rfl) (E.new (v := (.bool false)) 26 9 (by kernel_rfl) rfl))
    (Obs.gval rfl rfl (fun a' w' E => E.new 18 1 (by kernel_rfl) rfl) (fun a' w' E => ob_move (.tmp 27) rfl (E.new (v := (.bool false)) 27 10 (by kernel_rfl) rfl))
    (Obs.gval rfl rfl (fun a' w' E => E.new 28 11 (by kernel_rfl) rfl) (fun a' w' E => ob_fieldAddr 26 (.tmp 7) 2 rfl (E.old 7 (by kernel_rfl)) (fa26_2 _ _ w'))
    (Obs.gval rfl rfl (fun a' w' E => E.new 28 11 (by kernel_rfl) rfl) (fun a' w' E => ob_load1 4 (.tmp 29) rfl (E.new (v := (PO g1_6 8)) 29 12 (by kernel_rfl) rfl) (E.row (g := g1_6) (c := (P9 x ly false)) 2 rfl) Try.underlying4 rfl rfl)
    (Obs.gval rfl rfl (fun a' w' E => E.new 18 1 (by kernel_rfl) rfl) (fun a' w' E => ob_pick (.tmp 28) (.const (.bool true)) (.tmp 30) rfl (E.new (v := (.bool false)) 28 11 (by kernel_rfl) rfl) (E.new (v := (.bool false)) 30 13 (by kernel_rfl) rfl))
    (Obs.gval rfl rfl (fun a' w' E => E.new 18 1 (by kernel_rfl) rfl) (fun a' w' E => ob_move (.tmp 31) rfl (E.new (v := (.bool false)) 31 14 (by kernel_rfl) rfl))
    (Obs.gval rfl rfl (fun a' w' E => E.new 32 15 (by kernel_rfl) rfl) (fun a' w' E => ob_fieldAddr 26 (.tmp 7) 1 rfl (E.old 7 (by kernel_rfl)) (fa26_1 _ _ w'))
    (Obs.gval rfl rfl (fun a' w' E => E.new 32 15 (by kernel_rfl) rfl) (fun a' w' E => ob_loada 24 (.tmp 33) rfl (E.new (v := (PO g1_6 4)) 33 16 (by kernel_rfl) rfl) (E.row (g := g1_6) (c := (P9 x ly false)) 2 rfl) Try.underlying24 rfl (by kernel_rfl) rfl)
    (Obs.gval rfl rfl (fun a' w' E => E.new 32 15 (by kernel_rfl) rfl) (fun a' w' E => ob_build 24 _ rfl (pm0) (bd24_ w'))
    (Obs.gval rfl rfl (fun a' w' E => E.new 32 15 (by kernel_rfl) rfl) (fun a' w' E => ob_binOp .neq 24 (.tmp 34) (.tmp 35) 24 rfl (E.new (v := (U ly)) 34 17 (by kernel_rfl) rfl) (E.new (v := (U 0)) 35 18 (by kernel_rfl) rfl) (by simp [go_sem, hE1]))
    (Obs.gval rfl rfl (fun a' w' E => E.new 32 15 (by kernel_rfl) rfl) (fun a' w' E => ob_move (.tmp 36) rfl (E.new (v := (.bool true)) 36 19 (by kernel_rfl) rfl))
    (Obs.gval rfl rfl (fun a' w' E => E.new 37 20 (by kernel_rfl) rfl) (fun a' w' E => ob_fieldAddr 26 (.tmp 7) 1 rfl (E.old 7 (by kernel_rfl)) (fa26_1 _ _ w'))
    (Obs.gval rfl rfl (fun a' w' E => E.new 37 20 (by kernel_rfl) rfl) (fun a' w' E => ob_indexAddr 24 (.tmp 38) (.const (.int .i64 0)) rfl (E.new (v := (PO g1_6 4)) 38 21 (by kernel_rfl) rfl) (evc a' (.int .i64 0)) (ix24_0 _ _ w'))
    (Obs.gval rfl rfl (fun a' w' E => E.new 37 20 (by kernel_rfl) rfl) (fun a' w' E => ob_load1 22 (.tmp 39) rfl (E.new (v := (PO g1_6 4)) 39 22 (by kernel_rfl) rfl) (E.row (g := g1_6) (c := (P9 x ly false)) 2 rfl) Try.underlying22 rfl rfl)
    (Obs.gval rfl rfl (fun a' w' E => E.new 37 20 (by kernel_rfl) rfl) (fun a' w' E => ob_binOp .and 22 (.tmp 40) (.const (.int .u64 1)) 22 rfl (E.new (v := (B (l0 ly))) 40 23 (by kernel_rfl) rfl) (evc a' (.int .u64 1)) (by simp [go_sem, hu]))
    (Obs.gval rfl rfl (fun a' w' E => E.new 37 20 (by kernel_rfl) rfl) (fun a' w' E => ob_binOp .eql 22 (.tmp 41) (.const (.int .u64 1)) 22 rfl (E.new (v := (B u)) 41 24 (by kernel_rfl) rfl) (evc a' (.int .u64 1)) (by simp [go_sem, hu2]))
    (Obs.gval rfl rfl (fun a' w' E => E.new 37 20 (by kernel_rfl) rfl) (fun a' w' E => ob_move (.tmp 2) rfl (E.old 2 (by kernel_rfl)))
    (Obs.gval rfl rfl (fun a' w' E => E.new 37 20 (by kernel_rfl) rfl) (fun a' w' E => ob_binOp .neq 4 (.tmp 42) (.tmp 43) 4 rfl (E.new (v := (.bool odd)) 42 25 (by kernel_rfl) rfl) (E.new (v := (.bool odd)) 43 26 (by kernel_rfl) rfl) (by simp [go_sem]))
    (Obs.gval rfl rfl (fun a' w' E => E.new 32 15 (by kernel_rfl) rfl) (fun a' w' E => ob_pick (.tmp 37) (.tmp 44) (.const (.bool false)) rfl (E.new (v := (.bool true)) 37 20 (by kernel_rfl) rfl) (E.new (v := (.bool false)) 44 27 (by kernel_rfl) rfl))
    (Obs.gval rfl rfl (fun a' w' E => E.new 18 1 (by kernel_rfl) rfl) (fun a' w' E => ob_pick (.tmp 32) (.const (.bool true)) (.tmp 45) rfl (E.new (v := (.bool false)) 32 15 (by kernel_rfl) rfl) (E.new (v := (.bool false)) 45 28 (by kernel_rfl) rfl))
    (Obs.val (fun a' w' E => ob_pick (.tmp 18) (.tmp 46) (.const (.bool false)) rfl (E.new (v := (.bool true)) 18 1 (by kernel_rfl) rfl) (E.new (v := (.bool false)) 46 29 (by kernel_rfl) rfl))
    (Obs.val (fun a' w' E => ob_move (.tmp 47) rfl (E.new (v := (.bool false)) 47 30 (by kernel_rfl) rfl))
    (Obs.gval rfl rfl (fun a' w' E => E.new 48 31 (by kernel_rfl) rfl) (fun a' w' E => ob_move (.tmp 8) rfl (E.old 8 (by kernel_rfl)))
    (Obs.gval rfl rfl (fun a' w' E => E.new 48 31 (by kernel_rfl) rfl) (fun a' w' E => ob_unOp .not 4 (.tmp 49) rfl (E.new (v := (.bool true)) 49 32 (by kernel_rfl) rfl) (by simp [go_sem]))
    (Obs.gval rfl rfl (fun a' w' E => E.new 48 31 (by kernel_rfl) rfl) (fun a' w' E => ob_move (.tmp 50) rfl (E.new (v := (.bool false)) 50 33 (by kernel_rfl) rfl))
    (Obs.skip rfl rfl (fun a' w' E => E.new 51 34 (by kernel_rfl) rfl) (by decide) 
    (Obs.skip rfl rfl (fun a' w' E => E.new 51 34 (by kernel_rfl) rfl) (by decide) 
    (Obs.skip rfl rfl (fun a' w' E => E.new 51 34 (by kernel_rfl) rfl) (by decide) 
    (Obs.gval rfl rfl (fun a' w' E => E.new 48 31 (by kernel_rfl) rfl) (fun a' w' E => ob_pick (.tmp 51) (.tmp 54) (.const (.bool false)) rfl (E.new (v := (.bool false)) 51 34 (by kernel_rfl) rfl) (evc a' (.bool false)))
    (Obs.val (fun a' w' E => ob_pick (.tmp 48) (.const (.bool true)) (.tmp 55) rfl (E.new (v := (.bool false)) 48 31 (by kernel_rfl) rfl) (E.new (v := (.bool false)) 55 38 (by kernel_rfl) rfl))
    Obs.nil)))))))))))))))))))))))))))))))))))))))) ?_
  intro bs w2 aZ haZ F
  have eZ : aZ = ({ tmps := #[(A9 px py true), (U x), (.bool odd), (PT w.heap.size), (PT (w.heap.size + 1)), undef, (.bool false), (PT g1_6), (.bool true), undef, undef, (.tuple #[(A9 x ly false), (.bool true)]), (U x), (.bool odd), (.tuple #[(A9 x ly false), (.bool true)]), (A9 x ly false), (.bool true), (.bool true), (.bool true), (A9 x ly false), (.bool true), (.bool false), (.bool false), (PT g1_6), (U x), (U x), (.bool false), (.bool false), (.bool false), (PO g1_6 8), (.bool false), (.bool false), (.bool false), (PO g1_6 4), (U ly), (U 0), (.bool true), (.bool true), (PO g1_6 4), (PO g1_6 4), (B (l0 ly)), (B u), (.bool odd), (.bool odd), (.bool false), (.bool false), (.bool false), (.bool false), (.bool false), (.bool true), (.bool false), (.bool false), undef, undef, undef, (.bool false), (.bool false), undef, undef, undef, undef, undef, undef, undef, undef, undef, undef, undef, undef, undef, undef, undef, undef, undef, undef, undef, undef, undef, undef, undef, undef, undef, undef, undef, undef], defers := [] } : Act) := haZ.trans (by kernel_rfl)
  subst eZ
  clear haZ
  replace RR : Hid (RB w w2 [(g1_6, (P9 x ly false)), (w.heap.size + 1, (Ar x)), (w.heap.size, (P9 px py true))]) := ⟨F.bw, (RowsAt.cons (F.row 2 rfl) (RowsAt.cons (F.row 1 rfl) (RowsAt.cons (F.row 0 rfl) RowsAt.nil)))⟩
  clear F qT q0 q1 q2
  go_upto_region 4 with fail
  obtain ⟨q2, q1, q0, qT⟩ := RR.out.r.lts
  refine wp_region_told (by kernel_rfl) (by kernel_rfl) (by kernel_rfl) [(w.heap.size, (P9 px py true)), (w.heap.size + 1, (Ar x)), (g1_6, (P9 x ly false))]
    [sV (A9 px py true),
     sV (.bool true),
     sV (.bool false),
     sV (.bool false),
     sV (PO w.heap.size 8),
     sV (.bool true),
     sV (.bool true)]
    (by kernel_rfl) RR.out.b (RowsAt.cons (RR.out.at 2 rfl) (RowsAt.cons (RR.out.at 1 rfl) (RowsAt.cons (RR.out.at 0 rfl) RowsAt.nil))) (StOk.of [] rfl StM.nil)
    (Obs.val (fun a' w' E => ob_loada 26 (.tmp 3) rfl (E.old 3 (by kernel_rfl)) (E.row (g := w.heap.size) (c := (P9 px py true)) 0 rfl) Try.underlying26 rfl (by kernel_rfl) rfl)
    (Obs.val (fun a' w' E => ob_fcall 11 _ _ rfl (am1 (E.new (v := (A9 px py true)) 57 0 (by kernel_rfl) rfl)) (fc11 _ _) (hR.out w'))
    (Obs.val (fun a' w' E => ob_unOp .not 4 (.tmp 58) rfl (E.new (v := (.bool true)) 58 1 (by kernel_rfl) rfl) (by simp [go_sem]))
    (Obs.val (fun a' w' E => ob_move (.tmp 59) rfl (E.new (v := (.bool false)) 59 2 (by kernel_rfl) rfl))
    (Obs.gval rfl rfl (fun a' w' E => E.new 60 3 (by kernel_rfl) rfl) (fun a' w' E => ob_fieldAddr 26 (.tmp 3) 2 rfl (E.old 3 (by kernel_rfl)) (fa26_2 _ _ w'))
    (Obs.gval rfl rfl (fun a' w' E => E.new 60 3 (by kernel_rfl) rfl) (fun a' w' E => ob_load1 4 (.tmp 61) rfl (E.new (v := (PO w.heap.size 8)) 61 4 (by kernel_rfl) rfl) (E.row (g := w.heap.size) (c := (P9 px py true)) 0 rfl) Try.underlying4 rfl rfl)
    (Obs.val (fun a' w' E => ob_pick (.tmp 60) (.const (.bool true)) (.tmp 62) rfl (E.new (v := (.bool false)) 60 3 (by kernel_rfl) rfl) (E.new (v := (.bool true)) 62 5 (by kernel_rfl) rfl))
    Obs.nil))))))) ?_
  intro bs w3 aZ haZ F
  have eZ : aZ = ({ tmps := #[(A9 px py true), (U x), (.bool odd), (PT w.heap.size), (PT (w.heap.size + 1)), undef, (.bool false), (PT g1_6), (.bool true), undef, undef, (.tuple #[(A9 x ly false), (.bool true)]), (U x), (.bool odd), (.tuple #[(A9 x ly false), (.bool true)]), (A9 x ly false), (.bool true), (.bool true), (.bool true), (A9 x ly false), (.bool true), (.bool false), (.bool false), (PT g1_6), (U x), (U x), (.bool false), (.bool false), (.bool false), (PO g1_6 8), (.bool false), (.bool false), (.bool false), (PO g1_6 4), (U ly), (U 0), (.bool true), (.bool true), (PO g1_6 4), (PO g1_6 4), (B (l0 ly)), (B u), (.bool odd), (.bool odd), (.bool false), (.bool false), (.bool false), (.bool false), (.bool false), (.bool true), (.bool false), (.bool false), undef, undef, undef, (.bool false), (.bool false), (A9 px py true), (.bool true), (.bool false), (.bool false), (PO w.heap.size 8), (.bool true), (.bool true), undef, undef, undef, undef, undef, undef, undef, undef, undef, undef, undef, undef, undef, undef, undef, undef, undef, undef, undef, undef, undef], defers := [] } : Act) := haZ.trans (by kernel_rfl)
  subst eZ
  clear haZ
  replace RR : Hid (RB w w3 [(g1_6, (P9 x ly false)), (w.heap.size + 1, (Ar x)), (w.heap.size, (P9 px py true))]) := ⟨F.bw, (RowsAt.cons (F.row 2 rfl) (RowsAt.cons (F.row 1 rfl) (RowsAt.cons (F.row 0 rfl) RowsAt.nil)))⟩
  clear F qT q0 q1 q2
  go_upto_region 5 with fail
  obtain ⟨q2, q1, q0, qT⟩ := RR.out.r.lts
  refine wp_region_told (by kernel_rfl) (by kernel_rfl) (by kernel_rfl) [(w.heap.size, (P9 px py true)), (w.heap.size + 1, (Ar x)), (g1_6, (P9 x ly false))]
    [sV (.bool true),
     sV (.bool true)]
    (by kernel_rfl) RR.out.b (RowsAt.cons (RR.out.at 2 rfl) (RowsAt.cons (RR.out.at 1 rfl) (RowsAt.cons (RR.out.at 0 rfl) RowsAt.nil))) (StOk.of [] rfl StM.nil)
    (Obs.val (fun a' w' E => ob_fcall 18 _ _ rfl (am0) (fc18 _ _) (hW.out w'))
    (Obs.val (fun a' w' E => ob_assign (.tmp 64) rfl (E.new (v := (.bool true)) 64 0 (by kernel_rfl) rfl))
    Obs.nil)) ?_
  intro bs w4 aZ haZ F
  have eZ : aZ = ({ tmps := #[(A9 px py true), (U x), (.bool odd), (PT w.heap.size), (PT (w.heap.size + 1)), undef, (.bool true), (PT g1_6), (.bool true), undef, undef, (.tuple #[(A9 x ly false), (.bool true)]), (U x), (.bool odd), (.tuple #[(A9 x ly false), (.bool true)]), (A9 x ly false), (.bool true), (.bool true), (.bool true), (A9 x ly false), (.bool true), (.bool false), (.bool false), (PT g1_6), (U x), (U x), (.bool false), (.bool false), (.bool false), (PO g1_6 8), (.bool false), (.bool false), (.bool false), (PO g1_6 4), (U ly), (U 0), (.bool true), (.bool true), (PO g1_6 4), (PO g1_6 4), (B (l0 ly)), (B u), (.bool odd), (.bool odd), (.bool false), (.bool false), (.bool false), (.bool false), (.bool false), (.bool true), (.bool false), (.bool false), undef, undef, undef, (.bool false), (.bool false), (A9 px py true), (.bool true), (.bool false), (.bool false), (PO w.heap.size 8), (.bool true), (.bool true), (.bool true), undef, undef, undef, undef, undef, undef, undef, undef, undef, undef, undef, undef, undef, undef, undef, undef, undef, undef, undef, undef], defers := [] } : Act) := haZ.trans (by kernel_rfl)
  subst eZ
  clear haZ
  replace RR : Hid (RB w w4 [(g1_6, (P9 x ly false)), (w.heap.size + 1, (Ar x)), (w.heap.size, (P9 px py true))]) := ⟨F.bw, (RowsAt.cons (F.row 2 rfl) (RowsAt.cons (F.row 1 rfl) (RowsAt.cons (F.row 0 rfl) RowsAt.nil)))⟩
  clear F qT q0 q1 q2
  go_wp2
  exact bodyPost_ret (v := (.bool true)) (by simp [results, Try.results7, go_sem]) rfl ⟨rfl, RR.out.b⟩
set_option maxRecDepth 100000 in
set_option maxHeartbeats 4000000 in
theorem lifts_Ac (px py x ly : Nat) (odd : Bool) (u : Nat) (hu : bits .and .u64 ((l0 ly : Nat) : Int) 1 = (u : Int)) (hu2 : ((u : Int) == 1) = odd) (v : Nat) (po : Bool) (hv : bits .and .u64 ((l0 py : Nat) : Int) 1 = (v : Int)) (hv2 : ((v : Int) == 1) = po) (hL : Does 8 #[(U x), (.bool odd)] (.tuple #[(A9 x ly false), (.bool true)])) (hQ : Does 11 #[(A9 x ly false)] (.bool true)) (hR : Does 11 #[(A9 px py false)] (.bool true)) (hL2 : Does 8 #[(U px), (.bool po)] (.tuple #[(A9 px py false), (.bool true)])) (hW : Does 18 #[] (.bool true)) (hE0 : ∀ w, (Op.equalIn 10000 24 (U x) (U x)).run Try.prog w = .ok true w) (hE1 : ∀ w, (Op.equalIn 10000 24 (U ly) (U 0)).run Try.prog w = .ok false w) (hE2 : ∀ w, (Op.equalIn 10000 26 (A9 px py false) (A9 px py false)).run Try.prog w = .ok true w)
    (w : World) : Calls Try.prog 7 #[(A9 px py false), (U x), (.bool odd)] w fun e w' => e = .returned (.bool true) ∧ Below w.heap.size w w' := by
  go_enter Try.func7, Try.ntmps7
  go_upto_region 1 with fail
  refine name_world _ ?_
  intro wF hF0
  have RR : Hid (RB w wF [(w.heap.size + 1, (Ar x)), (w.heap.size, (P9 px py false))]) := by rw [hF0]; exact (rbN (rbN (rb0 w) (by simp)) (by simp))
  clear hF0
  obtain ⟨q1, q0, qT⟩ := RR.out.r.lts
  refine wp_region_told (by kernel_rfl) (by kernel_rfl) (by kernel_rfl) [(w.heap.size, (P9 px py false)), (w.heap.size + 1, (Ar x))]
    [sV (U x),
     sV (.bool odd),
     sV (.tuple #[(A9 x ly false), (.bool true)]),
     sV (.tuple #[(A9 x ly false), (.bool true)]),
     sV (A9 x ly false),
     sV (.bool true),
     sA (fun g => .pointer (some ⟨g, 0, none⟩)) 7 Z9 (P9 x ly false),
     sS 6,
     sV (.bool true)]
    (by kernel_rfl) RR.out.b (RowsAt.cons (RR.out.at 1 rfl) (RowsAt.cons (RR.out.at 0 rfl) RowsAt.nil)) (StOk.of [] rfl StM.nil)
    (Obs.val (fun a' w' E => ob_loada 24 (.tmp 4) rfl (E.old 4 (by kernel_rfl)) (E.row (g := w.heap.size + 1) (c := (Ar x)) 1 rfl) Try.underlying24 rfl (by kernel_rfl) rfl)
    (Obs.val (fun a' w' E => ob_move (.tmp 2) rfl (E.old 2 (by kernel_rfl)))
    (Obs.val (fun a' w' E => ob_fcall 8 _ _ rfl (am2 (E.new (v := (U x)) 12 0 (by kernel_rfl) rfl) (E.new (v := (.bool odd)) 13 1 (by kernel_rfl) rfl)) (fc8 _ _) (hL.out w'))
    (Obs.val (fun a' w' E => ob_move (.tmp 14) rfl (E.new (v := (.tuple #[(A9 x ly false), (.bool true)])) 14 2 (by kernel_rfl) rfl))
    (Obs.val (fun a' w' E => ob_extract (.tmp 11) 0 rfl (E.new (v := (.tuple #[(A9 x ly false), (.bool true)])) 11 3 (by kernel_rfl) rfl) rfl)
    (Obs.val (fun a' w' E => ob_extract (.tmp 11) 1 rfl (E.new (v := (.tuple #[(A9 x ly false), (.bool true)])) 11 3 (by kernel_rfl) rfl) rfl)
    (Obs.alloc (fun a' w' E => ob_alloc (t := 26) (by simp [opAt, execOp, go_sem]))
    (Obs.sta rfl (fun a' w' g E ha hr => ob_storea 26 (.tmp 7) (.tmp 15) rfl (ha 7 (by kernel_rfl)) (E.new (v := (A9 x ly false)) 15 4 (by kernel_rfl) rfl) rfl hr (by kernel_rfl) (Nat.le_of_ble_eq_true rfl) (by kernel_rfl) rfl)
    (Obs.val (fun a' w' E => ob_assign (.tmp 16) rfl (E.new (v := (.bool true)) 16 5 (by kernel_rfl) rfl))
    Obs.nil))))))))) ?_
  intro bs w1 aZ haZ F
  have eZ : aZ = ({ tmps := #[(A9 px py false), (U x), (.bool odd), (PT w.heap.size), (PT (w.heap.size + 1)), undef, (.bool false), (PT ((bs 6))), (.bool true), undef, undef, (.tuple #[(A9 x ly false), (.bool true)]), (U x), (.bool odd), (.tuple #[(A9 x ly false), (.bool true)]), (A9 x ly false), (.bool true), undef, undef, undef, undef, undef, undef, undef, undef, undef, undef, undef, undef, undef, undef, undef, undef, undef, undef, undef, undef, undef, undef, undef, undef, undef, undef, undef, undef, undef, undef, undef, undef, undef, undef, undef, undef, undef, undef, undef, undef, undef, undef, undef, undef, undef, undef, undef, undef, undef, undef, undef, undef, undef, undef, undef, undef, undef, undef, undef, undef, undef, undef, undef, undef, undef, undef, undef, undef], defers := [] } : Act) := haZ.trans (by kernel_rfl)
  subst eZ
  clear haZ
  obtain ⟨h6, X6⟩ := F.al 6 rfl rfl
  replace RR : Hid (RB w w1 [((bs 6), (P9 x ly false)), (w.heap.size + 1, (Ar x)), (w.heap.size, (P9 px py false))]) := ⟨F.bw, (RowsAt.cons X6 (RowsAt.cons (F.row 1 rfl) (RowsAt.cons (F.row 0 rfl) RowsAt.nil)))⟩
  generalize bs 6 = g1_6 at *
  have k1_6_0 := Nat.lt_of_lt_of_le q0 h6
  have k1_6_1 := Nat.lt_of_lt_of_le q1 h6
  clear F qT q0 q1 h6 X6
  clear wF
  go_upto_region 2 with fail
  obtain ⟨q2, q1, q0, qT⟩ := RR.out.r.lts
  refine wp_region_told (by kernel_rfl) (by kernel_rfl) (by kernel_rfl) [(w.heap.size, (P9 px py false)), (w.heap.size + 1, (Ar x)), (g1_6, (P9 x ly false))]
    [sV (.bool true),
     sV (.bool true),
     sV (A9 x ly false),
     sV (.bool true),
     sV (.bool false),
     sV (.bool false),
     sV (PT g1_6),
     sV (U x),
     sV (U x),
     sV (.bool false),
     sV (.bool false),
     sV (.bool false),
     sV (PO g1_6 8),
     sV (.bool false),
     sV (.bool false),
     sV (.bool false),
     sV (PO g1_6 4),
     sV (U ly),
     sV (U 0),
     sV (.bool true),
     sV (.bool true),
     sV (PO g1_6 4),
     sV (PO g1_6 4),
     sV (B (l0 ly)),
     sV (B u),
     sV (.bool odd),
     sV (.bool odd),
     sV (.bool false),
     sV (.bool false),
     sV (.bool false),
     sV (.bool false),
     sV (.bool false),
     sV (.bool true),
     sV (.bool false),
     sV (.bool false),
     sV undef,
     sV undef,
     sV undef,
     sV (.bool false),
     sV (.bool false)]
    (by kernel_rfl) RR.out.b (RowsAt.cons (RR.out.at 2 rfl) (RowsAt.cons (RR.out.at 1 rfl) (RowsAt.cons (RR.out.at 0 rfl) RowsAt.nil))) (StOk.of [] rfl StM.nil)
    (Obs.val (fun a' w' E => ob_move (.tmp 8) rfl (E.old 8 (by kernel_rfl)))
    (Obs.val (fun a' w' E => ob_move (.tmp 17) rfl (E.new (v := (.bool true)) 17 0 (by kernel_rfl) rfl))
    (Obs.gval rfl rfl (fun a' w' E => E.new 18 1 (by kernel_rfl) rfl) (fun a' w' E => ob_loada 26 (.tmp 7) rfl (E.old 7 (by kernel_rfl)) (E.row (g := g1_6) (c := (P9 x ly false)) 2 rfl) Try.underlying26 rfl (by kernel_rfl) rfl)
    (Obs.gval rfl rfl (fun a' w' E => E.new 18 1 (by kernel_rfl) rfl) (fun a' w' E => ob_fcall 11 _ _ rfl (am1 (E.new (v := (A9 x ly false)) 19 2 (by kernel_rfl) rfl)) (fc11 _ _) (hQ.out w'))
    (Obs.gval rfl rfl (fun a' w' E => E.new 18 1 (by kernel_rfl) rfl) (fun a' w' E => ob_unOp .not 4 (.tmp 20) rfl (E.new (v := (.bool true)) 20 3 (by kernel_rfl) rfl) (by simp [go_sem]))
    (Obs.gval rfl rfl (fun a' w' E => E.new 18 1 (by kernel_rfl) rfl) (fun a' w' E => ob_move (.tmp 21) rfl (E.new (v := (.bool false)) 21 4 (by kernel_rfl) rfl))
    (Obs.gval rfl rfl (fun a' w' E => E.new 22 5 (by kernel_rfl) rfl) (fun a' w' E => ob_fieldAddr 26 (.tmp 7) 0 rfl (E.old 7 (by kernel_rfl)) (fa26_0 _ _ w'))
    (Obs.gval rfl rfl (fun a' w' E => E.new 22 5 (by kernel_rfl) rfl) (fun a' w' E => ob_loada 24 (.tmp 23) rfl (E.new (v := (PT g1_6)) 23 6 (by kernel_rfl) rfl) (E.row (g := g1_6) (c := (P9 x ly false)) 2 rfl) Try.underlying24 rfl (by kernel_rfl) rfl)
    (Obs.gval rfl rfl (fun a' w' E => E.new 22 5 (by kernel_rfl) rfl) (fun a' w' E => ob_loada 24 (.tmp 4) rfl (E.old 4 (by kernel_rfl)) (E.row (g := w.heap.size + 1) (c := (Ar x)) 1 rfl) Try.underlying24 rfl (by kernel_rfl) rfl)
    (Obs.gval rfl rfl (fun a' w' E => E.new 22 5 (by kernel_rfl) rfl) (fun a' w' E => ob_binOp .neq 24 (.tmp 24) (.tmp 25) 24 rfl (E.new (v := (U x)) 24 7 (by kernel_rfl) rfl) (E.new (v := (U x)) 25 8 (by kernel_rfl) rfl) (by simp [go_sem, hE0]))
    (Obs.gval rfl rfl (fun a' w' E => E.new 18 1 (by kernel_rfl) rfl) (fun a' w' E => ob_pick (.tmp 22) (.const (.bool true)) (.tmp 26) rfl (E.new (v := (.bool false)) 22 5 (by kernel_rfl) rfl) (E.new (v := (.bool false)) 26 9 (by kernel_rfl) rfl))
    (Obs.gval rfl rfl (fun a' w' E => E.new 18 1 (by kernel_rfl) rfl) (fun a' w' E => ob_move (.tmp 27) rfl (E.new (v := (.bool false)) 27 10 (by kernel_rfl) rfl))
    (Obs.gval rfl rfl (fun a' w' E => E.new 28 11 (by kernel_rfl) rfl) (fun a' w' E => ob_fieldAddr 26 (.tmp 7) 2 rfl (E.old 7 (by kernel_rfl)) (fa26_2 _ _ w'))
    (Obs.gval rfl rfl (fun a' w' E => E.new 28 11 (by kernel_rfl) rfl) (fun a' w' E => ob_load1 4 (.tmp 29) rfl (E.new (v := (PO g1_6 8)) 29 12 (by kernel_rfl) rfl) (E.row (g := g1_6) (c := (P9 x ly false)) 2 rfl) Try.underlying4 rfl rfl)
    (Obs.gval rfl rfl (fun a' w' E => E.new 18 1 (by kernel_rfl) rfl) (fun a' w' E => ob_pick (.tmp 28) (.const (.bool true)) (.tmp 30) rfl (E.new (v := (.bool false)) 28 11 (by kernel_rfl) rfl) (E.new (v := (.bool false)) 30 13 (by kernel_rfl) rfl))
    (Obs.gval rfl rfl (fun a' w' E => E.new 18 1 (by kernel_rfl) rfl) (fun a' w' E => ob_move (.tmp 31) rfl (E.new (v := (.bool false)) 31 14 (by kernel_rfl) rfl))
    (Obs.gval rfl rfl (fun a' w' E => E.new 32 15 (by kernel_rfl) rfl) (fun a' w' E => ob_fieldAddr 26 (.tmp 7) 1 rfl (E.old 7 (by kernel_rfl)) (fa26_1 _ _ w'))
    (Obs.gval rfl rfl (fun a' w' E => E.new 32 15 (by kernel_rfl) rfl) (fun a' w' E => ob_loada 24 (.tmp 33) rfl (E.new (v := (PO g1_6 4)) 33 16 (by kernel_rfl) rfl) (E.row (g := g1_6) (c := (P9 x ly false)) 2 rfl) Try.underlying24 rfl (by kernel_rfl) rfl)
    (Obs.gval rfl rfl (fun a' w' E => E.new 32 15 (by kernel_rfl) rfl) (fun a' w' E => ob_build 24 _ rfl (pm0) (bd24_ w'))
    (Obs.gval rfl rfl (fun a' w' E => E.new 32 15 (by kernel_rfl) rfl) (fun a' w' E => ob_binOp .neq 24 (.tmp 34) (.tmp 35) 24 rfl (E.new (v := (U ly)) 34 17 (by kernel_rfl) rfl) (E.new (v := (U 0)) 35 18 (by kernel_rfl) rfl) (by simp [go_sem, hE1]))
    (Obs.gval rfl rfl (fun a' w' E => E.new 32 15 (by kernel_rfl) rfl) (fun a' w' E => ob_move (.tmp 36) rfl (E.new (v := (.bool true)) 36 19 (by kernel_rfl) rfl))
    (Obs.gval rfl rfl (fun a' w' E => E.new 37 20 (by kernel_rfl) rfl) (fun a' w' E => ob_fieldAddr 26 (.tmp 7) 1 rfl (E.old 7 (by kernel_rfl)) (fa26_1 _ _ w'))
    (Obs.gval rfl rfl (fun a' w' E => E.new 37 20 (by kernel_rfl) rfl) (fun a' w' E => ob_indexAddr 24 (.tmp 38) (.const (.int .i64 0)) rfl (E.new (v := (PO g1_6 4)) 38 21 (by kernel_rfl) rfl) (evc a' (.int .i64 0)) (ix24_0 _ _ w'))
    (Obs.gval rfl rfl (fun a' w' E => E.new 37 20 (by kernel_rfl) rfl) (fun a' w' E => ob_load1 22 (.tmp 39) rfl (E.new (v := (PO g1_6 4)) 39 22 (by kernel_rfl) rfl) (E.row (g := g1_6) (c := (P9 x ly false)) 2 rfl) Try.underlying22 rfl rfl)
    (Obs.gval rfl rfl (fun a' w' E => E.new 37 20 (by kernel_rfl) rfl) (fun a' w' E => ob_binOp .and 22 (.tmp 40) (.const (.int .u64 1)) 22 rfl (E.new (v := (B (l0 ly))) 40 23 (by kernel_rfl) rfl) (evc a' (.int .u64 1)) (by simp [go_sem, hu]))
    (Obs.gval rfl rfl (fun a' w' E => E.new 37 20 (by kernel_rfl) rfl) (fun a' w' E => ob_binOp .eql 22 (.tmp 41) (.const (.int .u64 1)) 22 rfl (E.new (v := (B u)) 41 24 (by kernel_rfl) rfl) (evc a' (.int .u64 1)) (by simp [go_sem, hu2]))
    (Obs.gval rfl rfl (fun a' w' E => E.new 37 20 (by kernel_rfl) rfl) (fun a' w' E => ob_move (.tmp 2) rfl (E.old 2 (by kernel_rfl)))
    (Obs.gval rfl rfl (fun a' w' E => E.new 37 20 (by kernel_rfl) rfl) (fun a' w' E => ob_binOp .neq 4 (.tmp 42) (.tmp 43) 4 rfl (E.new (v := (.bool odd)) 42 25 (by kernel_rfl) rfl) (E.new (v := (.bool odd)) 43 26 (by kernel_rfl) rfl) (by simp [go_sem]))
    (Obs.gval rfl rfl (fun a' w' E => E.new 32 15 (by kernel_rfl) rfl) (fun a' w' E => ob_pick (.tmp 37) (.tmp 44) (.const (.bool false)) rfl (E.new (v := (.bool true)) 37 20 (by kernel_rfl) rfl) (E.new (v := (.bool false)) 44 27 (by kernel_rfl) rfl))
    (Obs.gval rfl rfl (fun a' w' E => E.new 18 1 (by kernel_rfl) rfl) (fun a' w' E => ob_pick (.tmp 32) (.const (.bool true)) (.tmp 45) rfl (E.new (v := (.bool false)) 32 15 (by kernel_rfl) rfl) (E.new (v := (.bool false)) 45 28 (by kernel_rfl) rfl))
    (Obs.val (fun a' w' E => ob_pick (.tmp 18) (.tmp 46) (.const (.bool false)) rfl (E.new (v := (.bool true)) 18 1 (by kernel_rfl) rfl) (E.new (v := (.bool false)) 46 29 (by kernel_rfl) rfl))
    (Obs.val (fun a' w' E => ob_move (.tmp 47) rfl (E.new (v := (.bool false)) 47 30 (by kernel_rfl) rfl))
    (Obs.gval rfl rfl (fun a' w' E => E.new 48 31 (by kernel_rfl) rfl) (fun a' w' E => ob_move (.tmp 8) rfl (E.old 8 (by kernel_rfl)))
    (Obs.gval rfl rfl (fun a' w' E => E.new 48 31 (by kernel_rfl) rfl) (fun a' w' E => ob_unOp .not 4 (.tmp 49) rfl (E.new (v := (.bool true)) 49 32 (by kernel_rfl) rfl) (by simp [go_sem]))
    (Obs.gval rfl rfl (fun a' w' E => E.new 48 31 (by kernel_rfl) rfl) (fun a' w' E => ob_move (.tmp 50) rfl (E.new (v := (.bool false)) 50 33 (by kernel_rfl) rfl))
    (Obs.skip rfl rfl (fun a' w' E => E.new 51 34 (by kernel_rfl) rfl) (by decide) 
    (Obs.skip rfl rfl (fun a' w' E => E.new 51 34 (by kernel_rfl) rfl) (by decide) 
    (Obs.skip rfl rfl (fun a' w' E => E.new 51 34 (by kernel_rfl) rfl) (by decide) 
    (Obs.gval rfl rfl (fun a' w' E => E.new 48 31 (by kernel_rfl) rfl) (fun a' w' E => ob_pick (.tmp 51) (.tmp 54) (.const (.bool false)) rfl (E.new (v := (.bool false)) 51 34 (by kernel_rfl) rfl) (evc a' (.bool false)))
    (Obs.val (fun a' w' E => ob_pick (.tmp 48) (.const (.bool true)) (.tmp 55) rfl (E.new (v := (.bool false)) 48 31 (by kernel_rfl) rfl) (E.new (v := (.bool false)) 55 38 (by kernel_rfl) rfl))
    Obs.nil)))))))))))))))))))))))))))))))))))))))) ?_
  intro bs w2 aZ haZ F
  have eZ : aZ = ({ tmps := #[(A9 px py false), (U x), (.bool odd), (PT w.heap.size), (PT (w.heap.size + 1)), undef, (.bool false), (PT g1_6), (.bool true), undef, undef, (.tuple #[(A9 x ly false), (.bool true)]), (U x), (.bool odd), (.tuple #[(A9 x ly false), (.bool true)]), (A9 x ly false), (.bool true), (.bool true), (.bool true), (A9 x ly false), (.bool true), (.bool false), (.bool false), (PT g1_6), (U x), (U x), (.bool false), (.bool false), (.bool false), (PO g1_6 8), (.bool false), (.bool false), (.bool false), (PO g1_6 4), (U ly), (U 0), (.bool true), (.bool true), (PO g1_6 4), (PO g1_6 4), (B (l0 ly)), (B u), (.bool odd), (.bool odd), (.bool false), (.bool false), (.bool false), (.bool false), (.bool false), (.bool true), (.bool false), (.bool false), undef, undef, undef, (.bool false), (.bool false), undef, undef, undef, undef, undef, undef, undef, undef, undef, undef, undef, undef, undef, undef, undef, undef, undef, undef, undef, undef, undef, undef, undef, undef, undef, undef, undef, undef], defers := [] } : Act) := haZ.trans (by kernel_rfl)
  subst eZ
  clear haZ
  replace RR : Hid (RB w w2 [(g1_6, (P9 x ly false)), (w.heap.size + 1, (Ar x)), (w.heap.size, (P9 px py false))]) := ⟨F.bw, (RowsAt.cons (F.row 2 rfl) (RowsAt.cons (F.row 1 rfl) (RowsAt.cons (F.row 0 rfl) RowsAt.nil)))⟩
  clear F qT q0 q1 q2
  go_upto_region 4 with fail
  obtain ⟨q2, q1, q0, qT⟩ := RR.out.r.lts
  refine wp_region_told (by kernel_rfl) (by kernel_rfl) (by kernel_rfl) [(w.heap.size, (P9 px py false)), (w.heap.size + 1, (Ar x)), (g1_6, (P9 x ly false))]
    [sV (A9 px py false),
     sV (.bool true),
     sV (.bool false),
     sV (.bool false),
     sV (PO w.heap.size 8),
     sV (.bool false),
     sV (.bool false)]
    (by kernel_rfl) RR.out.b (RowsAt.cons (RR.out.at 2 rfl) (RowsAt.cons (RR.out.at 1 rfl) (RowsAt.cons (RR.out.at 0 rfl) RowsAt.nil))) (StOk.of [] rfl StM.nil)
    (Obs.val (fun a' w' E => ob_loada 26 (.tmp 3) rfl (E.old 3 (by kernel_rfl)) (E.row (g := w.heap.size) (c := (P9 px py false)) 0 rfl) Try.underlying26 rfl (by kernel_rfl) rfl)
    (Obs.val (fun a' w' E => ob_fcall 11 _ _ rfl (am1 (E.new (v := (A9 px py false)) 57 0 (by kernel_rfl) rfl)) (fc11 _ _) (hR.out w'))
    (Obs.val (fun a' w' E => ob_unOp .not 4 (.tmp 58) rfl (E.new (v := (.bool true)) 58 1 (by kernel_rfl) rfl) (by simp [go_sem]))
    (Obs.val (fun a' w' E => ob_move (.tmp 59) rfl (E.new (v := (.bool false)) 59 2 (by kernel_rfl) rfl))
    (Obs.gval rfl rfl (fun a' w' E => E.new 60 3 (by kernel_rfl) rfl) (fun a' w' E => ob_fieldAddr 26 (.tmp 3) 2 rfl (E.old 3 (by kernel_rfl)) (fa26_2 _ _ w'))
    (Obs.gval rfl rfl (fun a' w' E => E.new 60 3 (by kernel_rfl) rfl) (fun a' w' E => ob_load1 4 (.tmp 61) rfl (E.new (v := (PO w.heap.size 8)) 61 4 (by kernel_rfl) rfl) (E.row (g := w.heap.size) (c := (P9 px py false)) 0 rfl) Try.underlying4 rfl rfl)
    (Obs.val (fun a' w' E => ob_pick (.tmp 60) (.const (.bool true)) (.tmp 62) rfl (E.new (v := (.bool false)) 60 3 (by kernel_rfl) rfl) (E.new (v := (.bool false)) 62 5 (by kernel_rfl) rfl))
    Obs.nil))))))) ?_
  intro bs w3 aZ haZ F
  have eZ : aZ = ({ tmps := #[(A9 px py false), (U x), (.bool odd), (PT w.heap.size), (PT (w.heap.size + 1)), undef, (.bool false), (PT g1_6), (.bool true), undef, undef, (.tuple #[(A9 x ly false), (.bool true)]), (U x), (.bool odd), (.tuple #[(A9 x ly false), (.bool true)]), (A9 x ly false), (.bool true), (.bool true), (.bool true), (A9 x ly false), (.bool true), (.bool false), (.bool false), (PT g1_6), (U x), (U x), (.bool false), (.bool false), (.bool false), (PO g1_6 8), (.bool false), (.bool false), (.bool false), (PO g1_6 4), (U ly), (U 0), (.bool true), (.bool true), (PO g1_6 4), (PO g1_6 4), (B (l0 ly)), (B u), (.bool odd), (.bool odd), (.bool false), (.bool false), (.bool false), (.bool false), (.bool false), (.bool true), (.bool false), (.bool false), undef, undef, undef, (.bool false), (.bool false), (A9 px py false), (.bool true), (.bool false), (.bool false), (PO w.heap.size 8), (.bool false), (.bool false), undef, undef, undef, undef, undef, undef, undef, undef, undef, undef, undef, undef, undef, undef, undef, undef, undef, undef, undef, undef, undef], defers := [] } : Act) := haZ.trans (by kernel_rfl)
  subst eZ
  clear haZ
  replace RR : Hid (RB w w3 [(g1_6, (P9 x ly false)), (w.heap.size + 1, (Ar x)), (w.heap.size, (P9 px py false))]) := ⟨F.bw, (RowsAt.cons (F.row 2 rfl) (RowsAt.cons (F.row 1 rfl) (RowsAt.cons (F.row 0 rfl) RowsAt.nil)))⟩
  clear F qT q0 q1 q2
  go_upto_region 6 with fail
  obtain ⟨q2, q1, q0, qT⟩ := RR.out.r.lts
  refine wp_region_told (by kernel_rfl) (by kernel_rfl) (by kernel_rfl) [(w.heap.size, (P9 px py false)), (w.heap.size + 1, (Ar x)), (g1_6, (P9 x ly false))]
    [sV (PT w.heap.size),
     sV (U px),
     sV (PO w.heap.size 4),
     sV (PO w.heap.size 4),
     sV (B (l0 py)),
     sV (B v),
     sV (.bool po),
     sV (.tuple #[(A9 px py false), (.bool true)]),
     sV (.tuple #[(A9 px py false), (.bool true)]),
     sV (A9 px py false),
     sV (.bool true),
     sA (fun g => .pointer (some ⟨g, 0, none⟩)) 12 Z9 (P9 px py false),
     sS 11,
     sV (.bool true)]
    (by kernel_rfl) RR.out.b (RowsAt.cons (RR.out.at 2 rfl) (RowsAt.cons (RR.out.at 1 rfl) (RowsAt.cons (RR.out.at 0 rfl) RowsAt.nil))) (StOk.of [] rfl StM.nil)
    (Obs.val (fun a' w' E => ob_fieldAddr 26 (.tmp 3) 0 rfl (E.old 3 (by kernel_rfl)) (fa26_0 _ _ w'))
    (Obs.val (fun a' w' E => ob_loada 24 (.tmp 66) rfl (E.new (v := (PT w.heap.size)) 66 0 (by kernel_rfl) rfl) (E.row (g := w.heap.size) (c := (P9 px py false)) 0 rfl) Try.underlying24 rfl (by kernel_rfl) rfl)
    (Obs.val (fun a' w' E => ob_fieldAddr 26 (.tmp 3) 1 rfl (E.old 3 (by kernel_rfl)) (fa26_1 _ _ w'))
    (Obs.val (fun a' w' E => ob_indexAddr 24 (.tmp 68) (.const (.int .i64 0)) rfl (E.new (v := (PO w.heap.size 4)) 68 2 (by kernel_rfl) rfl) (evc a' (.int .i64 0)) (ix24_0 _ _ w'))
    (Obs.val (fun a' w' E => ob_load1 22 (.tmp 69) rfl (E.new (v := (PO w.heap.size 4)) 69 3 (by kernel_rfl) rfl) (E.row (g := w.heap.size) (c := (P9 px py false)) 0 rfl) Try.underlying22 rfl rfl)
    (Obs.val (fun a' w' E => ob_binOp .and 22 (.tmp 70) (.const (.int .u64 1)) 22 rfl (E.new (v := (B (l0 py))) 70 4 (by kernel_rfl) rfl) (evc a' (.int .u64 1)) (by simp [go_sem, hv]))
    (Obs.val (fun a' w' E => ob_binOp .eql 22 (.tmp 71) (.const (.int .u64 1)) 22 rfl (E.new (v := (B v)) 71 5 (by kernel_rfl) rfl) (evc a' (.int .u64 1)) (by simp [go_sem, hv2]))
    (Obs.val (fun a' w' E => ob_fcall 8 _ _ rfl (am2 (E.new (v := (U px)) 67 1 (by kernel_rfl) rfl) (E.new (v := (.bool po)) 72 6 (by kernel_rfl) rfl)) (fc8 _ _) (hL2.out w'))
    (Obs.val (fun a' w' E => ob_move (.tmp 73) rfl (E.new (v := (.tuple #[(A9 px py false), (.bool true)])) 73 7 (by kernel_rfl) rfl))
    (Obs.val (fun a' w' E => ob_extract (.tmp 65) 0 rfl (E.new (v := (.tuple #[(A9 px py false), (.bool true)])) 65 8 (by kernel_rfl) rfl) rfl)
    (Obs.val (fun a' w' E => ob_extract (.tmp 65) 1 rfl (E.new (v := (.tuple #[(A9 px py false), (.bool true)])) 65 8 (by kernel_rfl) rfl) rfl)
    (Obs.alloc (fun a' w' E => ob_alloc (t := 26) (by simp [opAt, execOp, go_sem]))
    (Obs.sta rfl (fun a' w' g E ha hr => ob_storea 26 (.tmp 9) (.tmp 74) rfl (ha 9 (by kernel_rfl)) (E.new (v := (A9 px py false)) 74 9 (by kernel_rfl) rfl) rfl hr (by kernel_rfl) (Nat.le_of_ble_eq_true rfl) (by kernel_rfl) rfl)
    (Obs.val (fun a' w' E => ob_assign (.tmp 75) rfl (E.new (v := (.bool true)) 75 10 (by kernel_rfl) rfl))
    Obs.nil)))))))))))))) ?_
  intro bs w4 aZ haZ F
  have eZ : aZ = ({ tmps := #[(A9 px py false), (U x), (.bool odd), (PT w.heap.size), (PT (w.heap.size + 1)), undef, (.bool false), (PT g1_6), (.bool true), (PT ((bs 11))), (.bool true), (.tuple #[(A9 x ly false), (.bool true)]), (U x), (.bool odd), (.tuple #[(A9 x ly false), (.bool true)]), (A9 x ly false), (.bool true), (.bool true), (.bool true), (A9 x ly false), (.bool true), (.bool false), (.bool false), (PT g1_6), (U x), (U x), (.bool false), (.bool false), (.bool false), (PO g1_6 8), (.bool false), (.bool false), (.bool false), (PO g1_6 4), (U ly), (U 0), (.bool true), (.bool true), (PO g1_6 4), (PO g1_6 4), (B (l0 ly)), (B u), (.bool odd), (.bool odd), (.bool false), (.bool false), (.bool false), (.bool false), (.bool false), (.bool true), (.bool false), (.bool false), undef, undef, undef, (.bool false), (.bool false), (A9 px py false), (.bool true), (.bool false), (.bool false), (PO w.heap.size 8), (.bool false), (.bool false), undef, (.tuple #[(A9 px py false), (.bool true)]), (PT w.heap.size), (U px), (PO w.heap.size 4), (PO w.heap.size 4), (B (l0 py)), (B v), (.bool po), (.tuple #[(A9 px py false), (.bool true)]), (A9 px py false), (.bool true), undef, undef, undef, undef, undef, undef, undef, undef, undef], defers := [] } : Act) := haZ.trans (by kernel_rfl)
  subst eZ
  clear haZ
  obtain ⟨h11, X11⟩ := F.al 11 rfl rfl
  replace RR : Hid (RB w w4 [((bs 11), (P9 px py false)), (g1_6, (P9 x ly false)), (w.heap.size + 1, (Ar x)), (w.heap.size, (P9 px py false))]) := ⟨F.bw, (RowsAt.cons X11 (RowsAt.cons (F.row 2 rfl) (RowsAt.cons (F.row 1 rfl) (RowsAt.cons (F.row 0 rfl) RowsAt.nil))))⟩
  generalize bs 11 = g4_11 at *
  have k4_11_0 := Nat.lt_of_lt_of_le q0 h11
  have k4_11_1 := Nat.lt_of_lt_of_le q1 h11
  have k4_11_2 := Nat.lt_of_lt_of_le q2 h11
  clear F qT q0 q1 q2 h11 X11
  go_upto_region 7 with fail
  obtain ⟨q3, q2, q1, q0, qT⟩ := RR.out.r.lts
  refine wp_region_told (by kernel_rfl) (by kernel_rfl) (by kernel_rfl) [(w.heap.size, (P9 px py false)), (w.heap.size + 1, (Ar x)), (g1_6, (P9 x ly false)), (g4_11, (P9 px py false))]
    [sV (.bool true),
     sV (.bool true),
     sV (A9 px py false),
     sV (A9 px py false),
     sV (.bool true),
     sV (.bool true),
     sV (.bool true),
     sV (.bool true),
     sV (.bool true),
     sV (.bool true)]
    (by kernel_rfl) RR.out.b (RowsAt.cons (RR.out.at 3 rfl) (RowsAt.cons (RR.out.at 2 rfl) (RowsAt.cons (RR.out.at 1 rfl) (RowsAt.cons (RR.out.at 0 rfl) RowsAt.nil)))) (StOk.of [] rfl StM.nil)
    (Obs.val (fun a' w' E => ob_move (.tmp 10) rfl (E.old 10 (by kernel_rfl)))
    (Obs.val (fun a' w' E => ob_move (.tmp 76) rfl (E.new (v := (.bool true)) 76 0 (by kernel_rfl) rfl))
    (Obs.gval rfl rfl (fun a' w' E => E.new 77 1 (by kernel_rfl) rfl) (fun a' w' E => ob_loada 26 (.tmp 9) rfl (E.old 9 (by kernel_rfl)) (E.row (g := g4_11) (c := (P9 px py false)) 3 rfl) Try.underlying26 rfl (by kernel_rfl) rfl)
    (Obs.gval rfl rfl (fun a' w' E => E.new 77 1 (by kernel_rfl) rfl) (fun a' w' E => ob_loada 26 (.tmp 3) rfl (E.old 3 (by kernel_rfl)) (E.row (g := w.heap.size) (c := (P9 px py false)) 0 rfl) Try.underlying26 rfl (by kernel_rfl) rfl)
    (Obs.gval rfl rfl (fun a' w' E => E.new 77 1 (by kernel_rfl) rfl) (fun a' w' E => ob_binOp .eql 26 (.tmp 78) (.tmp 79) 26 rfl (E.new (v := (A9 px py false)) 78 2 (by kernel_rfl) rfl) (E.new (v := (A9 px py false)) 79 3 (by kernel_rfl) rfl) (by simp [go_sem, hE2]))
    (Obs.val (fun a' w' E => ob_pick (.tmp 77) (.tmp 80) (.const (.bool false)) rfl (E.new (v := (.bool true)) 77 1 (by kernel_rfl) rfl) (E.new (v := (.bool true)) 80 4 (by kernel_rfl) rfl))
    (Obs.val (fun a' w' E => ob_move (.tmp 81) rfl (E.new (v := (.bool true)) 81 5 (by kernel_rfl) rfl))
    (Obs.gval rfl rfl (fun a' w' E => E.new 82 6 (by kernel_rfl) rfl) (fun a' w' E => ob_fcall 18 _ _ rfl (am0) (fc18 _ _) (hW.out w'))
    (Obs.val (fun a' w' E => ob_pick (.tmp 82) (.tmp 83) (.const (.bool false)) rfl (E.new (v := (.bool true)) 82 6 (by kernel_rfl) rfl) (E.new (v := (.bool true)) 83 7 (by kernel_rfl) rfl))
    (Obs.val (fun a' w' E => ob_assign (.tmp 84) rfl (E.new (v := (.bool true)) 84 8 (by kernel_rfl) rfl))
    Obs.nil)))))))))) ?_
  intro bs w5 aZ haZ F
  have eZ : aZ = ({ tmps := #[(A9 px py false), (U x), (.bool odd), (PT w.heap.size), (PT (w.heap.size + 1)), undef, (.bool true), (PT g1_6), (.bool true), (PT g4_11), (.bool true), (.tuple #[(A9 x ly false), (.bool true)]), (U x), (.bool odd), (.tuple #[(A9 x ly false), (.bool true)]), (A9 x ly false), (.bool true), (.bool true), (.bool true), (A9 x ly false), (.bool true), (.bool false), (.bool false), (PT g1_6), (U x), (U x), (.bool false), (.bool false), (.bool false), (PO g1_6 8), (.bool false), (.bool false), (.bool false), (PO g1_6 4), (U ly), (U 0), (.bool true), (.bool true), (PO g1_6 4), (PO g1_6 4), (B (l0 ly)), (B u), (.bool odd), (.bool odd), (.bool false), (.bool false), (.bool false), (.bool false), (.bool false), (.bool true), (.bool false), (.bool false), undef, undef, undef, (.bool false), (.bool false), (A9 px py false), (.bool true), (.bool false), (.bool false), (PO w.heap.size 8), (.bool false), (.bool false), undef, (.tuple #[(A9 px py false), (.bool true)]), (PT w.heap.size), (U px), (PO w.heap.size 4), (PO w.heap.size 4), (B (l0 py)), (B v), (.bool po), (.tuple #[(A9 px py false), (.bool true)]), (A9 px py false), (.bool true), (.bool true), (.bool true), (A9 px py false), (A9 px py false), (.bool true), (.bool true), (.bool true), (.bool true), (.bool true)], defers := [] } : Act) := haZ.trans (by kernel_rfl)
  subst eZ
  clear haZ
  replace RR : Hid (RB w w5 [(g4_11, (P9 px py false)), (g1_6, (P9 x ly false)), (w.heap.size + 1, (Ar x)), (w.heap.size, (P9 px py false))]) := ⟨F.bw, (RowsAt.cons (F.row 3 rfl) (RowsAt.cons (F.row 2 rfl) (RowsAt.cons (F.row 1 rfl) (RowsAt.cons (F.row 0 rfl) RowsAt.nil))))⟩
  clear F qT q0 q1 q2 q3
  go_wp2
  exact bodyPost_ret (v := (.bool true)) (by simp [results, Try.results7, go_sem]) rfl ⟨rfl, RR.out.b⟩
set_option maxRecDepth 100000 in
set_option maxHeartbeats 4000000 in
theorem lifts_Ba (px py x ly : Nat) (pn odd : Bool) (hL : Does 8 #[(U x), (.bool odd)] (.tuple #[(A9 0 0 false), (.bool false)])) (hR : Does 11 #[(A9 px py pn)] (.bool false)) (hW : Does 18 #[] (.bool true)) (hE0 : ∀ w, (Op.equalIn 10000 26 (A9 0 0 false) (A9 0 0 false)).run Try.prog w = .ok true w)
    (w : World) : Calls Try.prog 7 #[(A9 px py pn), (U x), (.bool odd)] w fun e w' => e = .returned (.bool true) ∧ Below w.heap.size w w' := by
  go_enter Try.func7, Try.ntmps7
  go_upto_region 1 with fail
  refine name_world _ ?_
  intro wF hF0
  have RR : Hid (RB w wF [(w.heap.size + 1, (Ar x)), (w.heap.size, (P9 px py pn))]) := by rw [hF0]; exact (rbN (rbN (rb0 w) (by simp)) (by simp))
  clear hF0
  obtain ⟨q1, q0, qT⟩ := RR.out.r.lts
  refine wp_region_told (by kernel_rfl) (by kernel_rfl) (by kernel_rfl) [(w.heap.size, (P9 px py pn)), (w.heap.size + 1, (Ar x))]
    [sV (U x),
     sV (.bool odd),
     sV (.tuple #[(A9 0 0 false), (.bool false)]),
     sV (.tuple #[(A9 0 0 false), (.bool false)]),
     sV (A9 0 0 false),
     sV (.bool false),
     sA (fun g => .pointer (some ⟨g, 0, none⟩)) 7 Z9 (P9 0 0 false),
     sS 6,
     sV (.bool false)]
    (by kernel_rfl) RR.out.b (RowsAt.cons (RR.out.at 1 rfl) (RowsAt.cons (RR.out.at 0 rfl) RowsAt.nil)) (StOk.of [] rfl StM.nil)
    (Obs.val (fun a' w' E => ob_loada 24 (.tmp 4) rfl (E.old 4 (by kernel_rfl)) (E.row (g := w.heap.size + 1) (c := (Ar x)) 1 rfl) Try.underlying24 rfl (by kernel_rfl) rfl)
    (Obs.val (fun a' w' E => ob_move (.tmp 2) rfl (E.old 2 (by kernel_rfl)))
    (Obs.val (fun a' w' E => ob_fcall 8 _ _ rfl (am2 (E.new (v := (U x)) 12 0 (by kernel_rfl) rfl) (E.new (v := (.bool odd)) 13 1 (by kernel_rfl) rfl)) (fc8 _ _) (hL.out w'))
    (Obs.val (fun a' w' E => ob_move (.tmp 14) rfl (E.new (v := (.tuple #[(A9 0 0 false), (.bool false)])) 14 2 (by kernel_rfl) rfl))
    (Obs.val (fun a' w' E => ob_extract (.tmp 11) 0 rfl (E.new (v := (.tuple #[(A9 0 0 false), (.bool false)])) 11 3 (by kernel_rfl) rfl) rfl)
    (Obs.val (fun a' w' E => ob_extract (.tmp 11) 1 rfl (E.new (v := (.tuple #[(A9 0 0 false), (.bool false)])) 11 3 (by kernel_rfl) rfl) rfl)
    (Obs.alloc (fun a' w' E => ob_alloc (t := 26) (by simp [opAt, execOp, go_sem]))
    (Obs.sta rfl (fun a' w' g E ha hr => ob_storea 26 (.tmp 7) (.tmp 15) rfl (ha 7 (by kernel_rfl)) (E.new (v := (A9 0 0 false)) 15 4 (by kernel_rfl) rfl) rfl hr (by kernel_rfl) (Nat.le_of_ble_eq_true rfl) (by kernel_rfl) rfl)
    (Obs.val (fun a' w' E => ob_assign (.tmp 16) rfl (E.new (v := (.bool false)) 16 5 (by kernel_rfl) rfl))
    Obs.nil))))))))) ?_
  intro bs w1 aZ haZ F
  have eZ : aZ = ({ tmps := #[(A9 px py pn), (U x), (.bool odd), (PT w.heap.size), (PT (w.heap.size + 1)), undef, (.bool false), (PT ((bs 6))), (.bool false), undef, undef, (.tuple #[(A9 0 0 false), (.bool false)]), (U x), (.bool odd), (.tuple #[(A9 0 0 false), (.bool false)]), (A9 0 0 false), (.bool false), undef, undef, undef, undef, undef, undef, undef, undef, undef, undef, undef, undef, undef, undef, undef, undef, undef, undef, undef, undef, undef, undef, undef, undef, undef, undef, undef, undef, undef, undef, undef, undef, undef, undef, undef, undef, undef, undef, undef, undef, undef, undef, undef, undef, undef, undef, undef, undef, undef, undef, undef, undef, undef, undef, undef, undef, undef, undef, undef, undef, undef, undef, undef, undef, undef, undef, undef, undef], defers := [] } : Act) := haZ.trans (by kernel_rfl)
  subst eZ
  clear haZ
  obtain ⟨h6, X6⟩ := F.al 6 rfl rfl
  replace RR : Hid (RB w w1 [((bs 6), (P9 0 0 false)), (w.heap.size + 1, (Ar x)), (w.heap.size, (P9 px py pn))]) := ⟨F.bw, (RowsAt.cons X6 (RowsAt.cons (F.row 1 rfl) (RowsAt.cons (F.row 0 rfl) RowsAt.nil)))⟩
  generalize bs 6 = g1_6 at *
  have k1_6_0 := Nat.lt_of_lt_of_le q0 h6
  have k1_6_1 := Nat.lt_of_lt_of_le q1 h6
  clear F qT q0 q1 h6 X6
  clear wF
  go_upto_region 2 with fail
  obtain ⟨q2, q1, q0, qT⟩ := RR.out.r.lts
  refine wp_region_told (by kernel_rfl) (by kernel_rfl) (by kernel_rfl) [(w.heap.size, (P9 px py pn)), (w.heap.size + 1, (Ar x)), (g1_6, (P9 0 0 false))]
    [sV (.bool false),
     sV (.bool false),
     sV undef,
     sV undef,
     sV undef,
     sV undef,
     sV undef,
     sV undef,
     sV undef,
     sV undef,
     sV undef,
     sV undef,
     sV undef,
     sV undef,
     sV undef,
     sV undef,
     sV undef,
     sV undef,
     sV undef,
     sV undef,
     sV undef,
     sV undef,
     sV undef,
     sV undef,
     sV undef,
     sV undef,
     sV undef,
     sV undef,
     sV undef,
     sV undef,
     sV (.bool false),
     sV (.bool false),
     sV (.bool false),
     sV (.bool true),
     sV (.bool true),
     sV (A9 0 0 false),
     sV (A9 0 0 false),
     sV (.bool false),
     sV (.bool false),
     sV (.bool false)]
    (by kernel_rfl) RR.out.b (RowsAt.cons (RR.out.at 2 rfl) (RowsAt.cons (RR.out.at 1 rfl) (RowsAt.cons (RR.out.at 0 rfl) RowsAt.nil))) (StOk.of [] rfl StM.nil)
    (Obs.val (fun a' w' E => ob_move (.tmp 8) rfl (E.old 8 (by kernel_rfl)))
    (Obs.val (fun a' w' E => ob_move (.tmp 17) rfl (E.new (v := (.bool false)) 17 0 (by kernel_rfl) rfl))
    (Obs.skip rfl rfl (fun a' w' E => E.new 18 1 (by kernel_rfl) rfl) (by decide) 
    (Obs.skip rfl rfl (fun a' w' E => E.new 18 1 (by kernel_rfl) rfl) (by decide) 
    (Obs.skip rfl rfl (fun a' w' E => E.new 18 1 (by kernel_rfl) rfl) (by decide) 
    (Obs.skip rfl rfl (fun a' w' E => E.new 18 1 (by kernel_rfl) rfl) (by decide) 
    (Obs.skipU rfl rfl (fun a' w' E => E.new 22 5 (by kernel_rfl) rfl) 
    (Obs.skipU rfl rfl (fun a' w' E => E.new 22 5 (by kernel_rfl) rfl) 
    (Obs.skipU rfl rfl (fun a' w' E => E.new 22 5 (by kernel_rfl) rfl) 
    (Obs.skipU rfl rfl (fun a' w' E => E.new 22 5 (by kernel_rfl) rfl) 
    (Obs.skip rfl rfl (fun a' w' E => E.new 18 1 (by kernel_rfl) rfl) (by decide) 
    (Obs.skip rfl rfl (fun a' w' E => E.new 18 1 (by kernel_rfl) rfl) (by decide) 
    (Obs.skipU rfl rfl (fun a' w' E => E.new 28 11 (by kernel_rfl) rfl) 
    (Obs.skipU rfl rfl (fun a' w' E => E.new 28 11 (by kernel_rfl) rfl) 
    (Obs.skip rfl rfl (fun a' w' E => E.new 18 1 (by kernel_rfl) rfl) (by decide) 
    (Obs.skip rfl rfl (fun a' w' E => E.new 18 1 (by kernel_rfl) rfl) (by decide) 
    (Obs.skipU rfl rfl (fun a' w' E => E.new 32 15 (by kernel_rfl) rfl) 
    (Obs.skipU rfl rfl (fun a' w' E => E.new 32 15 (by kernel_rfl) rfl) 
    (Obs.skipU rfl rfl (fun a' w' E => E.new 32 15 (by kernel_rfl) rfl) 
    (Obs.skipU rfl rfl (fun a' w' E => E.new 32 15 (by kernel_rfl) rfl) 
    (Obs.skipU rfl rfl (fun a' w' E => E.new 32 15 (by kernel_rfl) rfl) 
    (Obs.skipU rfl rfl (fun a' w' E => E.new 37 20 (by kernel_rfl) rfl) 
    (Obs.skipU rfl rfl (fun a' w' E => E.new 37 20 (by kernel_rfl) rfl) 
    (Obs.skipU rfl rfl (fun a' w' E => E.new 37 20 (by kernel_rfl) rfl) 
    (Obs.skipU rfl rfl (fun a' w' E => E.new 37 20 (by kernel_rfl) rfl) 
    (Obs.skipU rfl rfl (fun a' w' E => E.new 37 20 (by kernel_rfl) rfl) 
    (Obs.skipU rfl rfl (fun a' w' E => E.new 37 20 (by kernel_rfl) rfl) 
    (Obs.skipU rfl rfl (fun a' w' E => E.new 37 20 (by kernel_rfl) rfl) 
    (Obs.skipU rfl rfl (fun a' w' E => E.new 32 15 (by kernel_rfl) rfl) 
    (Obs.skip rfl rfl (fun a' w' E => E.new 18 1 (by kernel_rfl) rfl) (by decide) 
    (Obs.val (fun a' w' E => ob_pick (.tmp 18) (.tmp 46) (.const (.bool false)) rfl (E.new (v := (.bool false)) 18 1 (by kernel_rfl) rfl) (evc a' (.bool false)))
    (Obs.val (fun a' w' E => ob_move (.tmp 47) rfl (E.new (v := (.bool false)) 47 30 (by kernel_rfl) rfl))
    (Obs.gval rfl rfl (fun a' w' E => E.new 48 31 (by kernel_rfl) rfl) (fun a' w' E => ob_move (.tmp 8) rfl (E.old 8 (by kernel_rfl)))
    (Obs.gval rfl rfl (fun a' w' E => E.new 48 31 (by kernel_rfl) rfl) (fun a' w' E => ob_unOp .not 4 (.tmp 49) rfl (E.new (v := (.bool false)) 49 32 (by kernel_rfl) rfl) (by simp [go_sem]))
    (Obs.gval rfl rfl (fun a' w' E => E.new 48 31 (by kernel_rfl) rfl) (fun a' w' E => ob_move (.tmp 50) rfl (E.new (v := (.bool true)) 50 33 (by kernel_rfl) rfl))
    (Obs.gval rfl rfl (fun a' w' E => E.new 51 34 (by kernel_rfl) rfl) (fun a' w' E => ob_loada 26 (.tmp 7) rfl (E.old 7 (by kernel_rfl)) (E.row (g := g1_6) (c := (P9 0 0 false)) 2 rfl) Try.underlying26 rfl (by kernel_rfl) rfl)
    (Obs.gval rfl rfl (fun a' w' E => E.new 51 34 (by kernel_rfl) rfl) (fun a' w' E => ob_build 26 _ rfl (pm0) (bd26_ w'))
    (Obs.gval rfl rfl (fun a' w' E => E.new 51 34 (by kernel_rfl) rfl) (fun a' w' E => ob_binOp .neq 26 (.tmp 52) (.tmp 53) 26 rfl (E.new (v := (A9 0 0 false)) 52 35 (by kernel_rfl) rfl) (E.new (v := (A9 0 0 false)) 53 36 (by kernel_rfl) rfl) (by simp [go_sem, hE0]))
    (Obs.gval rfl rfl (fun a' w' E => E.new 48 31 (by kernel_rfl) rfl) (fun a' w' E => ob_pick (.tmp 51) (.tmp 54) (.const (.bool false)) rfl (E.new (v := (.bool true)) 51 34 (by kernel_rfl) rfl) (E.new (v := (.bool false)) 54 37 (by kernel_rfl) rfl))
    (Obs.val (fun a' w' E => ob_pick (.tmp 48) (.const (.bool true)) (.tmp 55) rfl (E.new (v := (.bool false)) 48 31 (by kernel_rfl) rfl) (E.new (v := (.bool false)) 55 38 (by kernel_rfl) rfl))
    Obs.nil)))))))))))))))))))))))))))))))))))))))) ?_
  intro bs w2 aZ haZ F
  have eZ : aZ = ({ tmps := #[(A9 px py pn), (U x), (.bool odd), (PT w.heap.size), (PT (w.heap.size + 1)), undef, (.bool false), (PT g1_6), (.bool false), undef, undef, (.tuple #[(A9 0 0 false), (.bool false)]), (U x), (.bool odd), (.tuple #[(A9 0 0 false), (.bool false)]), (A9 0 0 false), (.bool false), (.bool false), (.bool false), undef, undef, undef, undef, undef, undef, undef, undef, undef, undef, undef, undef, undef, undef, undef, undef, undef, undef, undef, undef, undef, undef, undef, undef, undef, undef, undef, undef, (.bool false), (.bool false), (.bool false), (.bool true), (.bool true), (A9 0 0 false), (A9 0 0 false), (.bool false), (.bool false), (.bool false), undef, undef, undef, undef, undef, undef, undef, undef, undef, undef, undef, undef, undef, undef, undef, undef, undef, undef, undef, undef, undef, undef, undef, undef, undef, undef, undef, undef], defers := [] } : Act) := haZ.trans (by kernel_rfl)
  subst eZ
  clear haZ
  replace RR : Hid (RB w w2 [(g1_6, (P9 0 0 false)), (w.heap.size + 1, (Ar x)), (w.heap.size, (P9 px py pn))]) := ⟨F.bw, (RowsAt.cons (F.row 2 rfl) (RowsAt.cons (F.row 1 rfl) (RowsAt.cons (F.row 0 rfl) RowsAt.nil)))⟩
  clear F qT q0 q1 q2
  go_upto_region 4 with fail
  obtain ⟨q2, q1, q0, qT⟩ := RR.out.r.lts
  refine wp_region_told (by kernel_rfl) (by kernel_rfl) (by kernel_rfl) [(w.heap.size, (P9 px py pn)), (w.heap.size + 1, (Ar x)), (g1_6, (P9 0 0 false))]
    [sV (A9 px py pn),
     sV (.bool false),
     sV (.bool true),
     sV (.bool true),
     sV undef,
     sV undef,
     sV (.bool true)]
    (by kernel_rfl) RR.out.b (RowsAt.cons (RR.out.at 2 rfl) (RowsAt.cons (RR.out.at 1 rfl) (RowsAt.cons (RR.out.at 0 rfl) RowsAt.nil))) (StOk.of [] rfl StM.nil)
    (Obs.val (fun a' w' E => ob_loada 26 (.tmp 3) rfl (E.old 3 (by kernel_rfl)) (E.row (g := w.heap.size) (c := (P9 px py pn)) 0 rfl) Try.underlying26 rfl (by kernel_rfl) rfl)
    (Obs.val (fun a' w' E => ob_fcall 11 _ _ rfl (am1 (E.new (v := (A9 px py pn)) 57 0 (by kernel_rfl) rfl)) (fc11 _ _) (hR.out w'))
    (Obs.val (fun a' w' E => ob_unOp .not 4 (.tmp 58) rfl (E.new (v := (.bool false)) 58 1 (by kernel_rfl) rfl) (by simp [go_sem]))
    (Obs.val (fun a' w' E => ob_move (.tmp 59) rfl (E.new (v := (.bool true)) 59 2 (by kernel_rfl) rfl))
    (Obs.skip rfl rfl (fun a' w' E => E.new 60 3 (by kernel_rfl) rfl) (by decide) 
    (Obs.skip rfl rfl (fun a' w' E => E.new 60 3 (by kernel_rfl) rfl) (by decide) 
    (Obs.val (fun a' w' E => ob_pick (.tmp 60) (.const (.bool true)) (.tmp 62) rfl (E.new (v := (.bool true)) 60 3 (by kernel_rfl) rfl) (evc a' (.bool true)))
    Obs.nil))))))) ?_
  intro bs w3 aZ haZ F
  have eZ : aZ = ({ tmps := #[(A9 px py pn), (U x), (.bool odd), (PT w.heap.size), (PT (w.heap.size + 1)), undef, (.bool false), (PT g1_6), (.bool false), undef, undef, (.tuple #[(A9 0 0 false), (.bool false)]), (U x), (.bool odd), (.tuple #[(A9 0 0 false), (.bool false)]), (A9 0 0 false), (.bool false), (.bool false), (.bool false), undef, undef, undef, undef, undef, undef, undef, undef, undef, undef, undef, undef, undef, undef, undef, undef, undef, undef, undef, undef, undef, undef, undef, undef, undef, undef, undef, undef, (.bool false), (.bool false), (.bool false), (.bool true), (.bool true), (A9 0 0 false), (A9 0 0 false), (.bool false), (.bool false), (.bool false), (A9 px py pn), (.bool false), (.bool true), (.bool true), undef, undef, (.bool true), undef, undef, undef, undef, undef, undef, undef, undef, undef, undef, undef, undef, undef, undef, undef, undef, undef, undef, undef, undef, undef], defers := [] } : Act) := haZ.trans (by kernel_rfl)
  subst eZ
  clear haZ
  replace RR : Hid (RB w w3 [(g1_6, (P9 0 0 false)), (w.heap.size + 1, (Ar x)), (w.heap.size, (P9 px py pn))]) := ⟨F.bw, (RowsAt.cons (F.row 2 rfl) (RowsAt.cons (F.row 1 rfl) (RowsAt.cons (F.row 0 rfl) RowsAt.nil)))⟩
  clear F qT q0 q1 q2
  go_upto_region 5 with fail
  obtain ⟨q2, q1, q0, qT⟩ := RR.out.r.lts
  refine wp_region_told (by kernel_rfl) (by kernel_rfl) (by kernel_rfl) [(w.heap.size, (P9 px py pn)), (w.heap.size + 1, (Ar x)), (g1_6, (P9 0 0 false))]
    [sV (.bool true),
     sV (.bool true)]
    (by kernel_rfl) RR.out.b (RowsAt.cons (RR.out.at 2 rfl) (RowsAt.cons (RR.out.at 1 rfl) (RowsAt.cons (RR.out.at 0 rfl) RowsAt.nil))) (StOk.of [] rfl StM.nil)
    (Obs.val (fun a' w' E => ob_fcall 18 _ _ rfl (am0) (fc18 _ _) (hW.out w'))
    (Obs.val (fun a' w' E => ob_assign (.tmp 64) rfl (E.new (v := (.bool true)) 64 0 (by kernel_rfl) rfl))
    Obs.nil)) ?_
  intro bs w4 aZ haZ F
  have eZ : aZ = ({ tmps := #[(A9 px py pn), (U x), (.bool odd), (PT w.heap.size), (PT (w.heap.size + 1)), undef, (.bool true), (PT g1_6), (.bool false), undef, undef, (.tuple #[(A9 0 0 false), (.bool false)]), (U x), (.bool odd), (.tuple #[(A9 0 0 false), (.bool false)]), (A9 0 0 false), (.bool false), (.bool false), (.bool false), undef, undef, undef, undef, undef, undef, undef, undef, undef, undef, undef, undef, undef, undef, undef, undef, undef, undef, undef, undef, undef, undef, undef, undef, undef, undef, undef, undef, (.bool false), (.bool false), (.bool false), (.bool true), (.bool true), (A9 0 0 false), (A9 0 0 false), (.bool false), (.bool false), (.bool false), (A9 px py pn), (.bool false), (.bool true), (.bool true), undef, undef, (.bool true), (.bool true), undef, undef, undef, undef, undef, undef, undef, undef, undef, undef, undef, undef, undef, undef, undef, undef, undef, undef, undef, undef], defers := [] } : Act) := haZ.trans (by kernel_rfl)
  subst eZ
  clear haZ
  replace RR : Hid (RB w w4 [(g1_6, (P9 0 0 false)), (w.heap.size + 1, (Ar x)), (w.heap.size, (P9 px py pn))]) := ⟨F.bw, (RowsAt.cons (F.row 2 rfl) (RowsAt.cons (F.row 1 rfl) (RowsAt.cons (F.row 0 rfl) RowsAt.nil)))⟩
  clear F qT q0 q1 q2
  go_wp2
  exact bodyPost_ret (v := (.bool true)) (by simp [results, Try.results7, go_sem]) rfl ⟨rfl, RR.out.b⟩
set_option maxRecDepth 100000 in
set_option maxHeartbeats 4000000 in
theorem lifts_Bb (px py x ly : Nat) (odd : Bool) (hL : Does 8 #[(U x), (.bool odd)] (.tuple #[(A9 0 0 false), (.bool false)])) (hR : Does 11 #[(A9 px py true)] (.bool true)) (hW : Does 18 #[] (.bool true)) (hE0 : ∀ w, (Op.equalIn 10000 26 (A9 0 0 false) (A9 0 0 false)).run Try.prog w = .ok true w)
    (w : World) : Calls Try.prog 7 #[(A9 px py true), (U x), (.bool odd)] w fun e w' => e = .returned (.bool true) ∧ Below w.heap.size w w' := by
  go_enter Try.func7, Try.ntmps7
  go_upto_region 1 with fail
  refine name_world _ ?_
  intro wF hF0
  have RR : Hid (RB w wF [(w.heap.size + 1, (Ar x)), (w.heap.size, (P9 px py true))]) := by rw [hF0]; exact (rbN (rbN (rb0 w) (by simp)) (by simp))
  clear hF0
  obtain ⟨q1, q0, qT⟩ := RR.out.r.lts
  refine wp_region_told (by kernel_rfl) (by kernel_rfl) (by kernel_rfl) [(w.heap.size, (P9 px py true)), (w.heap.size + 1, (Ar x))]
    [sV (U x),
     sV (.bool odd),
     sV (.tuple #[(A9 0 0 false), (.bool false)]),
     sV (.tuple #[(A9 0 0 false), (.bool false)]),
     sV (A9 0 0 false),
     sV (.bool false),
     sA (fun g => .pointer (some ⟨g, 0, none⟩)) 7 Z9 (P9 0 0 false),
     sS 6,
     sV (.bool false)]
    (by kernel_rfl) RR.out.b (RowsAt.cons (RR.out.at 1 rfl) (RowsAt.cons (RR.out.at 0 rfl) RowsAt.nil)) (StOk.of [] rfl StM.nil)
    (Obs.val (fun a' w' E => ob_loada 24 (.tmp 4) rfl (E.old 4 (by kernel_rfl)) (E.row (g := w.heap.size + 1) (c := (Ar x)) 1 rfl) Try.underlying24 rfl (by kernel_rfl) rfl)
    (Obs.val (fun a' w' E => ob_move (.tmp 2) rfl (E.old 2 (by kernel_rfl)))
    (Obs.val (fun a' w' E => ob_fcall 8 _ _ rfl (am2 (E.new (v := (U x)) 12 0 (by kernel_rfl) rfl) (E.new (v := (.bool odd)) 13 1 (by kernel_rfl) rfl)) (fc8 _ _) (hL.out w'))
    (Obs.val (fun a' w' E => ob_move (.tmp 14) rfl (E.new (v := (.tuple #[(A9 0 0 false), (.bool false)])) 14 2 (by kernel_rfl) rfl))
    (Obs.val (fun a' w' E => ob_extract (.tmp 11) 0 rfl (E.new (v := (.tuple #[(A9 0 0 false), (.bool false)])) 11 3 (by kernel_rfl) rfl) rfl)
    (Obs.val (fun a' w' E => ob_extract (.tmp 11) 1 rfl (E.new (v := (.tuple #[(A9 0 0 false), (.bool false)])) 11 3 (by kernel_rfl) rfl) rfl)
    (Obs.alloc (fun a' w' E => ob_alloc (t := 26) (by simp [opAt, execOp, go_sem]))
    (Obs.sta rfl (fun a' w' g E ha hr => ob_storea 26 (.tmp 7) (.tmp 15) rfl (ha 7 (by kernel_rfl)) (E.new (v := (A9 0 0 false)) 15 4 (by kernel_rfl) rfl) rfl hr (by kernel_rfl) (Nat.le_of_ble_eq_true rfl) (by kernel_rfl) rfl)
    (Obs.val (fun a' w' E => ob_assign (.tmp 16) rfl (E.new (v := (.bool false)) 16 5 (by kernel_rfl) rfl))
    Obs.nil))))))))) ?_
  intro bs w1 aZ haZ F
  have eZ : aZ = ({ tmps := #[(A9 px py true), (U x), (.bool odd), (PT w.heap.size), (PT (w.heap.size + 1)), undef, (.bool false), (PT ((bs 6))), (.bool false), undef, undef, (.tuple #[(A9 0 0 false), (.bool false)]), (U x), (.bool odd), (.tuple #[(A9 0 0 false), (.bool false)]), (A9 0 0 false), (.bool false), undef, undef, undef, undef, undef, undef, undef, undef, undef, undef, undef, undef, undef, undef, undef, undef, undef, undef, undef, undef, undef, undef, undef, undef, undef, undef, undef, undef, undef, undef, undef, undef, undef, undef, undef, undef, undef, undef, undef, undef, undef, undef, undef, undef, undef, undef, undef, undef, undef, undef, undef, undef, undef, undef, undef, undef, undef, undef, undef, undef, undef, undef, undef, undef, undef, undef, undef, undef], defers := [] } : Act) := haZ.trans (by kernel_rfl)
  subst eZ
  clear haZ
  obtain ⟨h6, X6⟩ := F.al 6 rfl rfl
  replace RR : Hid (RB w w1 [((bs 6), (P9 0 0 false)), (w.heap.size + 1, (Ar x)), (w.heap.size, (P9 px py true))]) := ⟨F.bw, (RowsAt.cons X6 (RowsAt.cons (F.row 1 rfl) (RowsAt.cons (F.row 0 rfl) RowsAt.nil)))⟩
  generalize bs 6 = g1_6 at *
  have k1_6_0 := Nat.lt_of_lt_of_le q0 h6
  have k1_6_1 := Nat.lt_of_lt_of_le q1 h6
  clear F qT q0 q1 h6 X6
  clear wF
  go_upto_region 2 with fail
  obtain ⟨q2, q1, q0, qT⟩ := RR.out.r.lts
  refine wp_region_told (by kernel_rfl) (by kernel_rfl) (by kernel_rfl) [(w.heap.size, (P9 px py true)), (w.heap.size + 1, (Ar x)), (g1_6, (P9 0 0 false))]
    [sV (.bool false),
     sV (.bool false),
     sV undef,
     sV undef,
     sV undef,
     sV undef,
     sV undef,
     sV undef,
     sV undef,
     sV undef,
     sV undef,
     sV undef,
     sV undef,
     sV undef,
     sV undef,
     sV undef,
     sV undef,
     sV undef,
     sV undef,
     sV undef,
     sV undef,
     sV undef,
     sV undef,
     sV undef,
     sV undef,
     sV undef,
     sV undef,
     sV undef,
     sV undef,
     sV undef,
     sV (.bool false),
     sV (.bool false),
     sV (.bool false),
     sV (.bool true),
     sV (.bool true),
     sV (A9 0 0 false),
     sV (A9 0 0 false),
     sV (.bool false),
     sV (.bool false),
     sV (.bool false)]
    (by kernel_rfl) RR.out.b (RowsAt.cons (RR.out.at 2 rfl) (RowsAt.cons (RR.out.at 1 rfl) (RowsAt.cons (RR.out.at 0 rfl) RowsAt.nil))) (StOk.of [] rfl StM.nil)
    (Obs.val (fun a' w' E => ob_move (.tmp 8) rfl (E.old 8 (by kernel_rfl)))
    (Obs.val (fun a' w' E => ob_move (.tmp 17) rfl (E.new (v := (.bool false)) 17 0 (by kernel_rfl) rfl))
    (Obs.skip rfl rfl (fun a' w' E => E.new 18 1 (by kernel_rfl) rfl) (by decide) 
    (Obs.skip rfl rfl (fun a' w' E => E.new 18 1 (by kernel_rfl) rfl) (by decide) 
    (Obs.skip rfl rfl (fun a' w' E => E.new 18 1 (by kernel_rfl) rfl) (by decide) 
    (Obs.skip rfl rfl (fun a' w' E => E.new 18 1 (by kernel_rfl) rfl) (by decide) 
    (Obs.skipU rfl rfl (fun a' w' E => E.new 22 5 (by kernel_rfl) rfl) 
    (Obs.skipU rfl rfl (fun a' w' E => E.new 22 5 (by kernel_rfl) rfl) 
    (Obs.skipU rfl rfl (fun a' w' E => E.new 22 5 (by kernel_rfl) rfl) 
    (Obs.skipU rfl rfl (fun a' w' E => E.new 22 5 (by kernel_rfl) rfl) 
    (Obs.skip rfl rfl (fun a' w' E => E.new 18 1 (by kernel_rfl) rfl) (by decide) 
    (Obs.skip rfl rfl (fun a' w' E => E.new 18 1 (by kernel_rfl) rfl) (by decide) 
    (Obs.skipU rfl rfl (fun a' w' E => E.new 28 11 (by kernel_rfl) rfl) 
    (Obs.skipU rfl rfl (fun a' w' E => E.new 28 11 (by kernel_rfl) rfl) 
    (Obs.skip rfl rfl (fun a' w' E => E.new 18 1 (by kernel_rfl) rfl) (by decide) 
    (Obs.skip rfl rfl (fun a' w' E => E.new 18 1 (by kernel_rfl) rfl) (by decide) 
    (Obs.skipU rfl rfl (fun a' w' E => E.new 32 15 (by kernel_rfl) rfl) 
    (Obs.skipU rfl rfl (fun a' w' E => E.new 32 15 (by kernel_rfl) rfl) 
    (Obs.skipU rfl rfl (fun a' w' E => E.new 32 15 (by kernel_rfl) rfl) 
    (Obs.skipU rfl rfl (fun a' w' E => E.new 32 15 (by kernel_rfl) rfl) 
    (Obs.skipU rfl rfl (fun a' w' E => E.new 32 15 (by kernel_rfl) rfl) 
    (Obs.skipU rfl rfl (fun a' w' E => E.new 37 20 (by kernel_rfl) rfl) 
    (Obs.skipU rfl rfl (fun a' w' E => E.new 37 20 (by kernel_rfl) rfl) 
    (Obs.skipU rfl rfl (fun a' w' E => E.new 37 20 (by kernel_rfl) rfl) 
    (Obs.skipU rfl rfl (fun a' w' E => E.new 37 20 (by kernel_rfl) rfl) 
    (Obs.skipU rfl rfl (fun a' w' E => E.new 37 20 (by kernel_rfl) rfl) 
    (Obs.skipU rfl rfl (fun a' w' E => E.new 37 20 (by kernel_rfl) rfl) 
    (Obs.skipU rfl rfl (fun a' w' E => E.new 37 20 (by kernel_rfl) rfl) 
    (Obs.skipU rfl rfl (fun a' w' E => E.new 32 15 (by kernel_rfl) rfl) 
    (Obs.skip rfl rfl (fun a' w' E => E.new 18 1 (by kernel_rfl) rfl) (by decide) 
    (Obs.val (fun a' w' E => ob_pick (.tmp 18) (.tmp 46) (.const (.bool false)) rfl (E.new (v := (.bool false)) 18 1 (by kernel_rfl) rfl) (evc a' (.bool false)))
    (Obs.val (fun a' w' E => ob_move (.tmp 47) rfl (E.new (v := (.bool false)) 47 30 (by kernel_rfl) rfl))
    (Obs.gval rfl rfl (fun a' w' E => E.new 48 31 (by kernel_rfl) rfl) (fun a' w' E => ob_move (.tmp 8) rfl (E.old 8 (by kernel_rfl)))
    (Obs.gval rfl rfl (fun a' w' E => E.new 48 31 (by kernel_rfl) rfl) (fun a' w' E => ob_unOp .not 4 (.tmp 49) rfl (E.new (v := (.bool false)) 49 32 (by kernel_rfl) rfl) (by simp [go_sem]))
    (Obs.gval rfl rfl (fun a' w' E => E.new 48 31 (by kernel_rfl) rfl) (fun a' w' E => ob_move (.tmp 50) rfl (E.new (v := (.bool true)) 50 33 (by kernel_rfl) rfl))
    (Obs.gval rfl rfl (fun a' w' E => E.new 51 34 (by kernel_rfl) rfl) (fun a' w' E => ob_loada 26 (.tmp 7) rfl (E.old 7 (by kernel_rfl)) (E.row (g := g1_6) (c := (P9 0 0 false)) 2 rfl) Try.underlying26 rfl (by kernel_rfl) rfl)
    (Obs.gval rfl rfl (fun a' w' E => E.new 51 34 (by kernel_rfl) rfl) (fun a' w' E => ob_build 26 _ rfl (pm0) (bd26_ w'))
    (Obs.gval rfl rfl (fun a' w' E => E.new 51 34 (by kernel_rfl) rfl) (fun a' w' E => ob_binOp .neq 26 (.tmp 52) (.tmp 53) 26 rfl (E.new (v := (A9 0 0 false)) 52 35 (by kernel_rfl) rfl) (E.new (v := (A9 0 0 false)) 53 36 (by kernel_rfl) rfl) (by simp [go_sem, hE0]))
    (Obs.gval rfl rfl (fun a' w' E => E.new 48 31 (by kernel_rfl) rfl) (fun a' w' E => ob_pick (.tmp 51) (.tmp 54) (.const (.bool false)) rfl (E.new (v := (.bool true)) 51 34 (by kernel_rfl) rfl) (E.new (v := (.bool false)) 54 37 (by kernel_rfl) rfl))
    (Obs.val (fun a' w' E => ob_pick (.tmp 48) (.const (.bool true)) (.tmp 55) rfl (E.new (v := (.bool false)) 48 31 (by kernel_rfl) rfl) (E.new (v := (.bool false)) 55 38 (by kernel_rfl) rfl))
    Obs.nil)))))))))))))))))))))))))))))))))))))))) ?_
  intro bs w2 aZ haZ F
  have eZ : aZ = ({ tmps := #[(A9 px py true), (U x), (.bool odd), (PT w.heap.size), (PT (w.heap.size + 1)), undef, (.bool false), (PT g1_6), (.bool false), undef, undef, (.tuple #[(A9 0 0 false), (.bool false)]), (U x), (.bool odd), (.tuple #[(A9 0 0 false), (.bool false)]), (A9 0 0 false), (.bool false), (.bool false), (.bool false), undef, undef, undef, undef, undef, undef, undef, undef, undef, undef, undef, undef, undef, undef, undef, undef, undef, undef, undef, undef, undef, undef, undef, undef, undef, undef, undef, undef, (.bool false), (.bool false), (.bool false), (.bool true), (.bool true), (A9 0 0 false), (A9 0 0 false), (.bool false), (.bool false), (.bool false), undef, undef, undef, undef, undef, undef, undef, undef, undef, undef, undef, undef, undef, undef, undef, undef, undef, undef, undef, undef, undef, undef, undef, undef, undef, undef, undef, undef], defers := [] } : Act) := haZ.trans (by kernel_rfl)
  subst eZ
  clear haZ
  replace RR : Hid (RB w w2 [(g1_6, (P9 0 0 false)), (w.heap.size + 1, (Ar x)), (w.heap.size, (P9 px py true))]) := ⟨F.bw, (RowsAt.cons (F.row 2 rfl) (RowsAt.cons (F.row 1 rfl) (RowsAt.cons (F.row 0 rfl) RowsAt.nil)))⟩
  clear F qT q0 q1 q2
  go_upto_region 4 with fail
  obtain ⟨q2, q1, q0, qT⟩ := RR.out.r.lts
  refine wp_region_told (by kernel_rfl) (by kernel_rfl) (by kernel_rfl) [(w.heap.size, (P9 px py true)), (w.heap.size + 1, (Ar x)), (g1_6, (P9 0 0 false))]
    [sV (A9 px py true),
     sV (.bool true),
     sV (.bool false),
     sV (.bool false),
     sV (PO w.heap.size 8),
     sV (.bool true),
     sV (.bool true)]
    (by kernel_rfl) RR.out.b (RowsAt.cons (RR.out.at 2 rfl) (RowsAt.cons (RR.out.at 1 rfl) (RowsAt.cons (RR.out.at 0 rfl) RowsAt.nil))) (StOk.of [] rfl StM.nil)
    (Obs.val (fun a' w' E => ob_loada 26 (.tmp 3) rfl (E.old 3 (by kernel_rfl)) (E.row (g := w.heap.size) (c := (P9 px py true)) 0 rfl) Try.underlying26 rfl (by kernel_rfl) rfl)
    (Obs.val (fun a' w' E => ob_fcall 11 _ _ rfl (am1 (E.new (v := (A9 px py true)) 57 0 (by kernel_rfl) rfl)) (fc11 _ _) (hR.out w'))
    (Obs.val (fun a' w' E => ob_unOp .not 4 (.tmp 58) rfl (E.new (v := (.bool true)) 58 1 (by kernel_rfl) rfl) (by simp [go_sem]))
    (Obs.val (fun a' w' E => ob_move (.tmp 59) rfl (E.new (v := (.bool false)) 59 2 (by kernel_rfl) rfl))
    (Obs.gval rfl rfl (fun a' w' E => E.new 60 3 (by kernel_rfl) rfl) (fun a' w' E => ob_fieldAddr 26 (.tmp 3) 2 rfl (E.old 3 (by kernel_rfl)) (fa26_2 _ _ w'))
    (Obs.gval rfl rfl (fun a' w' E => E.new 60 3 (by kernel_rfl) rfl) (fun a' w' E => ob_load1 4 (.tmp 61) rfl (E.new (v := (PO w.heap.size 8)) 61 4 (by kernel_rfl) rfl) (E.row (g := w.heap.size) (c := (P9 px py true)) 0 rfl) Try.underlying4 rfl rfl)
    (Obs.val (fun a' w' E => ob_pick (.tmp 60) (.const (.bool true)) (.tmp 62) rfl (E.new (v := (.bool false)) 60 3 (by kernel_rfl) rfl) (E.new (v := (.bool true)) 62 5 (by kernel_rfl) rfl))
    Obs.nil))))))) ?_
  intro bs w3 aZ haZ F
  have eZ : aZ = ({ tmps := #[(A9 px py true), (U x), (.bool odd), (PT w.heap.size), (PT (w.heap.size + 1)), undef, (.bool false), (PT g1_6), (.bool false), undef, undef, (.tuple #[(A9 0 0 false), (.bool false)]), (U x), (.bool odd), (.tuple #[(A9 0 0 false), (.bool false)]), (A9 0 0 false), (.bool false), (.bool false), (.bool false), undef, undef, undef, undef, undef, undef, undef, undef, undef, undef, undef, undef, undef, undef, undef, undef, undef, undef, undef, undef, undef, undef, undef, undef, undef, undef, undef, undef, (.bool false), (.bool false), (.bool false), (.bool true), (.bool true), (A9 0 0 false), (A9 0 0 false), (.bool false), (.bool false), (.bool false), (A9 px py true), (.bool true), (.bool false), (.bool false), (PO w.heap.size 8), (.bool true), (.bool true), undef, undef, undef, undef, undef, undef, undef, undef, undef, undef, undef, undef, undef, undef, undef, undef, undef, undef, undef, undef, undef], defers := [] } : Act) := haZ.trans (by kernel_rfl)
  subst eZ
  clear haZ
  replace RR : Hid (RB w w3 [(g1_6, (P9 0 0 false)), (w.heap.size + 1, (Ar x)), (w.heap.size, (P9 px py true))]) := ⟨F.bw, (RowsAt.cons (F.row 2 rfl) (RowsAt.cons (F.row 1 rfl) (RowsAt.cons (F.row 0 rfl) RowsAt.nil)))⟩
  clear F qT q0 q1 q2
  go_upto_region 5 with fail
  obtain ⟨q2, q1, q0, qT⟩ := RR.out.r.lts
  refine wp_region_told (by kernel_rfl) (by kernel_rfl) (by kernel_rfl) [(w.heap.size, (P9 px py true)), (w.heap.size + 1, (Ar x)), (g1_6, (P9 0 0 false))]
    [sV (.bool true),
     sV (.bool true)]
    (by kernel_rfl) RR.out.b (RowsAt.cons (RR.out.at 2 rfl) (RowsAt.cons (RR.out.at 1 rfl) (RowsAt.cons (RR.out.at 0 rfl) RowsAt.nil))) (StOk.of [] rfl StM.nil)
    (Obs.val (fun a' w' E => ob_fcall 18 _ _ rfl (am0) (fc18 _ _) (hW.out w'))
    (Obs.val (fun a' w' E => ob_assign (.tmp 64) rfl (E.new (v := (.bool true)) 64 0 (by kernel_rfl) rfl))
    Obs.nil)) ?_
  intro bs w4 aZ haZ F
  have eZ : aZ = ({ tmps := #[(A9 px py true), (U x), (.bool odd), (PT w.heap.size), (PT (w.heap.size + 1)), undef, (.bool true), (PT g1_6), (.bool false), undef, undef, (.tuple #[(A9 0 0 false), (.bool false)]), (U x), (.bool odd), (.tuple #[(A9 0 0 false), (.bool false)]), (A9 0 0 false), (.bool false), (.bool false), (.bool false), undef, undef, undef, undef, undef, undef, undef, undef, undef, undef, undef, undef, undef, undef, undef, undef, undef, undef, undef, undef, undef, undef, undef, undef, undef, undef, undef, undef, (.bool false), (.bool false), (.bool false), (.bool true), (.bool true), (A9 0 0 false), (A9 0 0 false), (.bool false), (.bool false), (.bool false), (A9 px py true), (.bool true), (.bool false), (.bool false), (PO w.heap.size 8), (.bool true), (.bool true), (.bool true), undef, undef, undef, undef, undef, undef, undef, undef, undef, undef, undef, undef, undef, undef, undef, undef, undef, undef, undef, undef], defers := [] } : Act) := haZ.trans (by kernel_rfl)
  subst eZ
  clear haZ
  replace RR : Hid (RB w w4 [(g1_6, (P9 0 0 false)), (w.heap.size + 1, (Ar x)), (w.heap.size, (P9 px py true))]) := ⟨F.bw, (RowsAt.cons (F.row 2 rfl) (RowsAt.cons (F.row 1 rfl) (RowsAt.cons (F.row 0 rfl) RowsAt.nil)))⟩
  clear F qT q0 q1 q2
  go_wp2
  exact bodyPost_ret (v := (.bool true)) (by simp [results, Try.results7, go_sem]) rfl ⟨rfl, RR.out.b⟩
set_option maxRecDepth 100000 in
set_option maxHeartbeats 4000000 in
theorem lifts_Bc (px py x ly : Nat) (odd : Bool) (v : Nat) (po : Bool) (hv : bits .and .u64 ((l0 py : Nat) : Int) 1 = (v : Int)) (hv2 : ((v : Int) == 1) = po) (hL : Does 8 #[(U x), (.bool odd)] (.tuple #[(A9 0 0 false), (.bool false)])) (hR : Does 11 #[(A9 px py false)] (.bool true)) (hL2 : Does 8 #[(U px), (.bool po)] (.tuple #[(A9 px py false), (.bool true)])) (hW : Does 18 #[] (.bool true)) (hE0 : ∀ w, (Op.equalIn 10000 26 (A9 0 0 false) (A9 0 0 false)).run Try.prog w = .ok true w) (hE1 : ∀ w, (Op.equalIn 10000 26 (A9 px py false) (A9 px py false)).run Try.prog w = .ok true w)
    (w : World) : Calls Try.prog 7 #[(A9 px py false), (U x), (.bool odd)] w fun e w' => e = .returned (.bool true) ∧ Below w.heap.size w w' := by
  go_enter Try.func7, Try.ntmps7
  go_upto_region 1 with fail
  refine name_world _ ?_
  intro wF hF0
  have RR : Hid (RB w wF [(w.heap.size + 1, (Ar x)), (w.heap.size, (P9 px py false))]) := by rw [hF0]; exact (rbN (rbN (rb0 w) (by simp)) (by simp))
  clear hF0
  obtain ⟨q1, q0, qT⟩ := RR.out.r.lts
  refine wp_region_told (by kernel_rfl) (by kernel_rfl) (by kernel_rfl) [(w.heap.size, (P9 px py false)), (w.heap.size + 1, (Ar x))]
    [sV (U x),
     sV (.bool odd),
     sV (.tuple #[(A9 0 0 false), (.bool false)]),
     sV (.tuple #[(A9 0 0 false), (.bool false)]),
     sV (A9 0 0 false),
     sV (.bool false),
     sA (fun g => .pointer (some ⟨g, 0, none⟩)) 7 Z9 (P9 0 0 false),
     sS 6,
     sV (.bool false)]
    (by kernel_rfl) RR.out.b (RowsAt.cons (RR.out.at 1 rfl) (RowsAt.cons (RR.out.at 0 rfl) RowsAt.nil)) (StOk.of [] rfl StM.nil)
    (Obs.val (fun a' w' E => ob_loada 24 (.tmp 4) rfl (E.old 4 (by kernel_rfl)) (E.row (g := w.heap.size + 1) (c := (Ar x)) 1 rfl) Try.underlying24 rfl (by kernel_rfl) rfl)
    (Obs.val (fun a' w' E => ob_move (.tmp 2) rfl (E.old 2 (by kernel_rfl)))
    (Obs.val (fun a' w' E => ob_fcall 8 _ _ rfl (am2 (E.new (v := (U x)) 12 0 (by kernel_rfl) rfl) (E.new (v := (.bool odd)) 13 1 (by kernel_rfl) rfl)) (fc8 _ _) (hL.out w'))
    (Obs.val (fun a' w' E => ob_move (.tmp 14) rfl (E.new (v := (.tuple #[(A9 0 0 false), (.bool false)])) 14 2 (by kernel_rfl) rfl))
    (Obs.val (fun a' w' E => ob_extract (.tmp 11) 0 rfl (E.new (v := (.tuple #[(A9 0 0 false), (.bool false)])) 11 3 (by kernel_rfl) rfl) rfl)
    (Obs.val (fun a' w' E => ob_extract (.tmp 11) 1 rfl (E.new (v := (.tuple #[(A9 0 0 false), (.bool false)])) 11 3 (by kernel_rfl) rfl) rfl)
    (Obs.alloc (fun a' w' E => ob_alloc (t := 26) (by simp [opAt, execOp, go_sem]))
    (Obs.sta rfl (fun a' w' g E ha hr => ob_storea 26 (.tmp 7) (.tmp 15) rfl (ha 7 (by kernel_rfl)) (E.new (v := (A9 0 0 false)) 15 4 (by kernel_rfl) rfl) rfl hr (by kernel_rfl) (Nat.le_of_ble_eq_true rfl) (by kernel_rfl) rfl)
    (Obs.val (fun a' w' E => ob_assign (.tmp 16) rfl (E.new (v := (.bool false)) 16 5 (by kernel_rfl) rfl))
    Obs.nil))))))))) ?_
  intro bs w1 aZ haZ F
  have eZ : aZ = ({ tmps := #[(A9 px py false), (U x), (.bool odd), (PT w.heap.size), (PT (w.heap.size + 1)), undef, (.bool false), (PT ((bs 6))), (.bool false), undef, undef, (.tuple #[(A9 0 0 false), (.bool false)]), (U x), (.bool odd), (.tuple #[(A9 0 0 false), (.bool false)]), (A9 0 0 false), (.bool false), undef, undef, undef, undef, undef, undef, undef, undef, undef, undef, undef, undef, undef, undef, undef, undef, undef, undef, undef, undef, undef, undef, undef, undef, undef, undef, undef, undef, undef, undef, undef, undef, undef, undef, undef, undef, undef, undef, undef, undef, undef, undef, undef, undef, undef, undef, undef, undef, undef, undef, undef, undef, undef, undef, undef, undef, undef, undef, undef, undef, undef, undef, undef, undef, undef, undef, undef, undef], defers := [] } : Act) := haZ.trans (by kernel_rfl)
  subst eZ
  clear haZ
  obtain ⟨h6, X6⟩ := F.al 6 rfl rfl
  replace RR : Hid (RB w w1 [((bs 6), (P9 0 0 false)), (w.heap.size + 1, (Ar x)), (w.heap.size, (P9 px py false))]) := ⟨F.bw, (RowsAt.cons X6 (RowsAt.cons (F.row 1 rfl) (RowsAt.cons (F.row 0 rfl) RowsAt.nil)))⟩
  generalize bs 6 = g1_6 at *
  have k1_6_0 := Nat.lt_of_lt_of_le q0 h6
  have k1_6_1 := Nat.lt_of_lt_of_le q1 h6
  clear F qT q0 q1 h6 X6
  clear wF
  go_upto_region 2 with fail
  obtain ⟨q2, q1, q0, qT⟩ := RR.out.r.lts
  refine wp_region_told (by kernel_rfl) (by kernel_rfl) (by kernel_rfl) [(w.heap.size, (P9 px py false)), (w.heap.size + 1, (Ar x)), (g1_6, (P9 0 0 false))]
    [sV (.bool false),
     sV (.bool false),
     sV undef,
     sV undef,
     sV undef,
     sV undef,
     sV undef,
     sV undef,
     sV undef,
     sV undef,
     sV undef,
     sV undef,
     sV undef,
     sV undef,
     sV undef,
     sV undef,
     sV undef,
     sV undef,
     sV undef,
     sV undef,
     sV undef,
     sV undef,
     sV undef,
     sV undef,
     sV undef,
     sV undef,
     sV undef,
     sV undef,
     sV undef,
     sV undef,
     sV (.bool false),
     sV (.bool false),
     sV (.bool false),
     sV (.bool true),
     sV (.bool true),
     sV (A9 0 0 false),
     sV (A9 0 0 false),
     sV (.bool false),
     sV (.bool false),
     sV (.bool false)]
    (by kernel_rfl) RR.out.b (RowsAt.cons (RR.out.at 2 rfl) (RowsAt.cons (RR.out.at 1 rfl) (RowsAt.cons (RR.out.at 0 rfl) RowsAt.nil))) (StOk.of [] rfl StM.nil)
    (Obs.val (fun a' w' E => ob_move (.tmp 8) rfl (E.old 8 (by kernel_rfl)))
    (Obs.val (fun a' w' E => ob_move (.tmp 17) rfl (E.new (v := (.bool false)) 17 0 (by kernel_rfl) rfl))
    (Obs.skip rfl rfl (fun a' w' E => E.new 18 1 (by kernel_rfl) rfl) (by decide) 
    (Obs.skip rfl rfl (fun a' w' E => E.new 18 1 (by kernel_rfl) rfl) (by decide) 
    (Obs.skip rfl rfl (fun a' w' E => E.new 18 1 (by kernel_rfl) rfl) (by decide) 
    (Obs.skip rfl rfl (fun a' w' E => E.new 18 1 (by kernel_rfl) rfl) (by decide) 
    (Obs.skipU rfl rfl (fun a' w' E => E.new 22 5 (by kernel_rfl) rfl) 
    (Obs.skipU rfl rfl (fun a' w' E => E.new 22 5 (by kernel_rfl) rfl) 
    (Obs.skipU rfl rfl (fun a' w' E => E.new 22 5 (by kernel_rfl) rfl) 
    (Obs.skipU rfl rfl (fun a' w' E => E.new 22 5 (by kernel_rfl) rfl) 
    (Obs.skip rfl rfl (fun a' w' E => E.new 18 1 (by kernel_rfl) rfl) (by decide) 
    (Obs.skip rfl rfl (fun a' w' E => E.new 18 1 (by kernel_rfl) rfl) (by decide) 
    (Obs.skipU rfl rfl (fun a' w' E => E.new 28 11 (by kernel_rfl) rfl) 
    (Obs.skipU rfl rfl (fun a' w' E => E.new 28 11 (by kernel_rfl) rfl) 
    (Obs.skip rfl rfl (fun a' w' E => E.new 18 1 (by kernel_rfl) rfl) (by decide) 
    (Obs.skip rfl rfl (fun a' w' E => E.new 18 1 (by kernel_rfl) rfl) (by decide) 
    (Obs.skipU rfl rfl (fun a' w' E => E.new 32 15 (by kernel_rfl) rfl) 
    (Obs.skipU rfl rfl (fun a' w' E => E.new 32 15 (by kernel_rfl) rfl) 
    (Obs.skipU rfl rfl (fun a' w' E => E.new 32 15 (by kernel_rfl) rfl) 
    (Obs.skipU rfl rfl (fun a' w' E => E.new 32 15 (by kernel_rfl) rfl) 
    (Obs.skipU rfl rfl (fun a' w' E => E.new 32 15 (by kernel_rfl) rfl) 
    (Obs.skipU rfl rfl (fun a' w' E => E.new 37 20 (by kernel_rfl) rfl) 
    (Obs.skipU rfl rfl (fun a' w' E => E.new 37 20 (by kernel_rfl) rfl) 
    (Obs.skipU rfl rfl (fun a' w' E => E.new 37 20 (by kernel_rfl) rfl) 
    (Obs.skipU rfl rfl (fun a' w' E => E.new 37 20 (by kernel_rfl) rfl) 
    (Obs.skipU rfl rfl (fun a' w' E => E.new 37 20 (by kernel_rfl) rfl) 
    (Obs.skipU rfl rfl (fun a' w' E => E.new 37 20 (by kernel_rfl) rfl) 
    (Obs.skipU rfl rfl (fun a' w' E => E.new 37 20 (by kernel_rfl) rfl) 
    (Obs.skipU rfl rfl (fun a' w' E => E.new 32 15 (by kernel_rfl) rfl) 
    (Obs.skip rfl rfl (fun a' w' E => E.new 18 1 (by kernel_rfl) rfl) (by decide) 
    (Obs.val (fun a' w' E => ob_pick (.tmp 18) (.tmp 46) (.const (.bool false)) rfl (E.new (v := (.bool false)) 18 1 (by kernel_rfl) rfl) (evc a' (.bool false)))
    (Obs.val (fun a' w' E => ob_move (.tmp 47) rfl (E.new (v := (.bool false)) 47 30 (by kernel_rfl) rfl))
    (Obs.gval rfl rfl (fun a' w' E => E.new 48 31 (by kernel_rfl) rfl) (fun a' w' E => ob_move (.tmp 8) rfl (E.old 8 (by kernel_rfl)))
    (Obs.gval rfl rfl (fun a' w' E => E.new 48 31 (by kernel_rfl) rfl) (fun a' w' E => ob_unOp .not 4 (.tmp 49) rfl (E.new (v := (.bool false)) 49 32 (by kernel_rfl) rfl) (by simp [go_sem]))
    (Obs.gval rfl rfl (fun a' w' E => E.new 48 31 (by kernel_rfl) rfl) (fun a' w' E => ob_move (.tmp 50) rfl (E.new (v := (.bool true)) 50 33 (by kernel_rfl) rfl))
    (Obs.gval rfl rfl (fun a' w' E => E.new 51 34 (by kernel_rfl) rfl) (fun a' w' E => ob_loada 26 (.tmp 7) rfl (E.old 7 (by kernel_rfl)) (E.row (g := g1_6) (c := (P9 0 0 false)) 2 rfl) Try.underlying26 rfl (by kernel_rfl) rfl)
    (Obs.gval rfl rfl (fun a' w' E => E.new 51 34 (by kernel_rfl) rfl) (fun a' w' E => ob_build 26 _ rfl (pm0) (bd26_ w'))
    (Obs.gval rfl rfl (fun a' w' E => E.new 51 34 (by kernel_rfl) rfl) (fun a' w' E => ob_binOp .neq 26 (.tmp 52) (.tmp 53) 26 rfl (E.new (v := (A9 0 0 false)) 52 35 (by kernel_rfl) rfl) (E.new (v := (A9 0 0 false)) 53 36 (by kernel_rfl) rfl) (by simp [go_sem, hE0]))
    (Obs.gval rfl rfl (fun a' w' E => E.new 48 31 (by kernel_rfl) rfl) (fun a' w' E => ob_pick (.tmp 51) (.tmp 54) (.const (.bool false)) rfl (E.new (v := (.bool true)) 51 34 (by kernel_rfl) rfl) (E.new (v := (.bool false)) 54 37 (by kernel_rfl) rfl))
    (Obs.val (fun a' w' E => ob_pick (.tmp 48) (.const (.bool true)) (.tmp 55) rfl (E.new (v := (.bool false)) 48 31 (by kernel_rfl) rfl) (E.new (v := (.bool false)) 55 38 (by kernel_rfl) rfl))
    Obs.nil)))))))))))))))))))))))))))))))))))))))) ?_
  intro bs w2 aZ haZ F
  have eZ : aZ = ({ tmps := #[(A9 px py false), (U x), (.bool odd), (PT w.heap.size), (PT (w.heap.size + 1)), undef, (.bool false), (PT g1_6), (.bool false), undef, undef, (.tuple #[(A9 0 0 false), (.bool false)]), (U x), (.bool odd), (.tuple #[(A9 0 0 false), (.bool false)]), (A9 0 0 false), (.bool false), (.bool false), (.bool false), undef, undef, undef, undef, undef, undef, undef, undef, undef, undef, undef, undef, undef, undef, undef, undef, undef, undef, undef, undef, undef, undef, undef, undef, undef, undef, undef, undef, (.bool false), (.bool false), (.bool false), (.bool true), (.bool true), (A9 0 0 false), (A9 0 0 false), (.bool false), (.bool false), (.bool false), undef, undef, undef, undef, undef, undef, undef, undef, undef, undef, undef, undef, undef, undef, undef, undef, undef, undef, undef, undef, undef, undef, undef, undef, undef, undef, undef, undef], defers := [] } : Act) := haZ.trans (by kernel_rfl)
  subst eZ
  clear haZ
  replace RR : Hid (RB w w2 [(g1_6, (P9 0 0 false)), (w.heap.size + 1, (Ar x)), (w.heap.size, (P9 px py false))]) := ⟨F.bw, (RowsAt.cons (F.row 2 rfl) (RowsAt.cons (F.row 1 rfl) (RowsAt.cons (F.row 0 rfl) RowsAt.nil)))⟩
  clear F qT q0 q1 q2
  go_upto_region 4 with fail
  obtain ⟨q2, q1, q0, qT⟩ := RR.out.r.lts
  refine wp_region_told (by kernel_rfl) (by kernel_rfl) (by kernel_rfl) [(w.heap.size, (P9 px py false)), (w.heap.size + 1, (Ar x)), (g1_6, (P9 0 0 false))]
    [sV (A9 px py false),
     sV (.bool true),
     sV (.bool false),
     sV (.bool false),
     sV (PO w.heap.size 8),
     sV (.bool false),
     sV (.bool false)]
    (by kernel_rfl) RR.out.b (RowsAt.cons (RR.out.at 2 rfl) (RowsAt.cons (RR.out.at 1 rfl) (RowsAt.cons (RR.out.at 0 rfl) RowsAt.nil))) (StOk.of [] rfl StM.nil)
    (Obs.val (fun a' w' E => ob_loada 26 (.tmp 3) rfl (E.old 3 (by kernel_rfl)) (E.row (g := w.heap.size) (c := (P9 px py false)) 0 rfl) Try.underlying26 rfl (by kernel_rfl) rfl)
    (Obs.val (fun a' w' E => ob_fcall 11 _ _ rfl (am1 (E.new (v := (A9 px py false)) 57 0 (by kernel_rfl) rfl)) (fc11 _ _) (hR.out w'))
    (Obs.val (fun a' w' E => ob_unOp .not 4 (.tmp 58) rfl (E.new (v := (.bool true)) 58 1 (by kernel_rfl) rfl) (by simp [go_sem]))
    (Obs.val (fun a' w' E => ob_move (.tmp 59) rfl (E.new (v := (.bool false)) 59 2 (by kernel_rfl) rfl))
    (Obs.gval rfl rfl (fun a' w' E => E.new 60 3 (by kernel_rfl) rfl) (fun a' w' E => ob_fieldAddr 26 (.tmp 3) 2 rfl (E.old 3 (by kernel_rfl)) (fa26_2 _ _ w'))
    (Obs.gval rfl rfl (fun a' w' E => E.new 60 3 (by kernel_rfl) rfl) (fun a' w' E => ob_load1 4 (.tmp 61) rfl (E.new (v := (PO w.heap.size 8)) 61 4 (by kernel_rfl) rfl) (E.row (g := w.heap.size) (c := (P9 px py false)) 0 rfl) Try.underlying4 rfl rfl)
    (Obs.val (fun a' w' E => ob_pick (.tmp 60) (.const (.bool true)) (.tmp 62) rfl (E.new (v := (.bool false)) 60 3 (by kernel_rfl) rfl) (E.new (v := (.bool false)) 62 5 (by kernel_rfl) rfl))
    Obs.nil))))))) ?_
  intro bs w3 aZ haZ F
  have eZ : aZ = ({ tmps := #[(A9 px py false), (U x), (.bool odd), (PT w.heap.size), (PT (w.heap.size + 1)), undef, (.bool false), (PT g1_6), (.bool false), undef, undef, (.tuple #[(A9 0 0 false), (.bool false)]), (U x), (.bool odd), (.tuple #[(A9 0 0 false), (.bool false)]), (A9 0 0 false), (.bool false), (.bool false), (.bool false), undef, undef, undef, undef, undef, undef, undef, undef, undef, undef, undef, undef, undef, undef, undef, undef, undef, undef, undef, undef, undef, undef, undef, undef, undef, undef, undef, undef, (.bool false), (.bool false), (.bool false), (.bool true), (.bool true), (A9 0 0 false), (A9 0 0 false), (.bool false), (.bool false), (.bool false), (A9 px py false), (.bool true), (.bool false), (.bool false), (PO w.heap.size 8), (.bool false), (.bool false), undef, undef, undef, undef, undef, undef, undef, undef, undef, undef, undef, undef, undef, undef, undef, undef, undef, undef, undef, undef, undef], defers := [] } : Act) := haZ.trans (by kernel_rfl)
  subst eZ
  clear haZ
  replace RR : Hid (RB w w3 [(g1_6, (P9 0 0 false)), (w.heap.size + 1, (Ar x)), (w.heap.size, (P9 px py false))]) := ⟨F.bw, (RowsAt.cons (F.row 2 rfl) (RowsAt.cons (F.row 1 rfl) (RowsAt.cons (F.row 0 rfl) RowsAt.nil)))⟩
  clear F qT q0 q1 q2
  go_upto_region 6 with fail
  obtain ⟨q2, q1, q0, qT⟩ := RR.out.r.lts
  refine wp_region_told (by kernel_rfl) (by kernel_rfl) (by kernel_rfl) [(w.heap.size, (P9 px py false)), (w.heap.size + 1, (Ar x)), (g1_6, (P9 0 0 false))]
    [sV (PT w.heap.size),
     sV (U px),
     sV (PO w.heap.size 4),
     sV (PO w.heap.size 4),
     sV (B (l0 py)),
     sV (B v),
     sV (.bool po),
     sV (.tuple #[(A9 px py false), (.bool true)]),
     sV (.tuple #[(A9 px py false), (.bool true)]),
     sV (A9 px py false),
     sV (.bool true),
     sA (fun g => .pointer (some ⟨g, 0, none⟩)) 12 Z9 (P9 px py false),
     sS 11,
     sV (.bool true)]
    (by kernel_rfl) RR.out.b (RowsAt.cons (RR.out.at 2 rfl) (RowsAt.cons (RR.out.at 1 rfl) (RowsAt.cons (RR.out.at 0 rfl) RowsAt.nil))) (StOk.of [] rfl StM.nil)
    (Obs.val (fun a' w' E => ob_fieldAddr 26 (.tmp 3) 0 rfl (E.old 3 (by kernel_rfl)) (fa26_0 _ _ w'))
    (Obs.val (fun a' w' E => ob_loada 24 (.tmp 66) rfl (E.new (v := (PT w.heap.size)) 66 0 (by kernel_rfl) rfl) (E.row (g := w.heap.size) (c := (P9 px py false)) 0 rfl) Try.underlying24 rfl (by kernel_rfl) rfl)
    (Obs.val (fun a' w' E => ob_fieldAddr 26 (.tmp 3) 1 rfl (E.old 3 (by kernel_rfl)) (fa26_1 _ _ w'))
    (Obs.val (fun a' w' E => ob_indexAddr 24 (.tmp 68) (.const (.int .i64 0)) rfl (E.new (v := (PO w.heap.size 4)) 68 2 (by kernel_rfl) rfl) (evc a' (.int .i64 0)) (ix24_0 _ _ w'))
    (Obs.val (fun a' w' E => ob_load1 22 (.tmp 69) rfl (E.new (v := (PO w.heap.size 4)) 69 3 (by kernel_rfl) rfl) (E.row (g := w.heap.size) (c := (P9 px py false)) 0 rfl) Try.underlying22 rfl rfl)
    (Obs.val (fun a' w' E => ob_binOp .and 22 (.tmp 70) (.const (.int .u64 1)) 22 rfl (E.new (v := (B (l0 py))) 70 4 (by kernel_rfl) rfl) (evc a' (.int .u64 1)) (by simp [go_sem, hv]))
    (Obs.val (fun a' w' E => ob_binOp .eql 22 (.tmp 71) (.const (.int .u64 1)) 22 rfl (E.new (v := (B v)) 71 5 (by kernel_rfl) rfl) (evc a' (.int .u64 1)) (by simp [go_sem, hv2]))
    (Obs.val (fun a' w' E => ob_fcall 8 _ _ rfl (am2 (E.new (v := (U px)) 67 1 (by kernel_rfl) rfl) (E.new (v := (.bool po)) 72 6 (by kernel_rfl) rfl)) (fc8 _ _) (hL2.out w'))
    (Obs.val (fun a' w' E => ob_move (.tmp 73) rfl (E.new (v := (.tuple #[(A9 px py false), (.bool true)])) 73 7 (by kernel_rfl) rfl))
    (Obs.val (fun a' w' E => ob_extract (.tmp 65) 0 rfl (E.new (v := (.tuple #[(A9 px py false), (.bool true)])) 65 8 (by kernel_rfl) rfl) rfl)
    (Obs.val (fun a' w' E => ob_extract (.tmp 65) 1 rfl (E.new (v := (.tuple #[(A9 px py false), (.bool true)])) 65 8 (by kernel_rfl) rfl) rfl)
    (Obs.alloc (fun a' w' E => ob_alloc (t := 26) (by simp [opAt, execOp, go_sem]))
    (Obs.sta rfl (fun a' w' g E ha hr => ob_storea 26 (.tmp 9) (.tmp 74) rfl (ha 9 (by kernel_rfl)) (E.new (v := (A9 px py false)) 74 9 (by kernel_rfl) rfl) rfl hr (by kernel_rfl) (Nat.le_of_ble_eq_true rfl) (by kernel_rfl) rfl)
    (Obs.val (fun a' w' E => ob_assign (.tmp 75) rfl (E.new (v := (.bool true)) 75 10 (by kernel_rfl) rfl))
    Obs.nil)))))))))))))) ?_
  intro bs w4 aZ haZ F
  have eZ : aZ = ({ tmps := #[(A9 px py false), (U x), (.bool odd), (PT w.heap.size), (PT (w.heap.size + 1)), undef, (.bool false), (PT g1_6), (.bool false), (PT ((bs 11))), (.bool true), (.tuple #[(A9 0 0 false), (.bool false)]), (U x), (.bool odd), (.tuple #[(A9 0 0 false), (.bool false)]), (A9 0 0 false), (.bool false), (.bool false), (.bool false), undef, undef, undef, undef, undef, undef, undef, undef, undef, undef, undef, undef, undef, undef, undef, undef, undef, undef, undef, undef, undef, undef, undef, undef, undef, undef, undef, undef, (.bool false), (.bool false), (.bool false), (.bool true), (.bool true), (A9 0 0 false), (A9 0 0 false), (.bool false), (.bool false), (.bool false), (A9 px py false), (.bool true), (.bool false), (.bool false), (PO w.heap.size 8), (.bool false), (.bool false), undef, (.tuple #[(A9 px py false), (.bool true)]), (PT w.heap.size), (U px), (PO w.heap.size 4), (PO w.heap.size 4), (B (l0 py)), (B v), (.bool po), (.tuple #[(A9 px py false), (.bool true)]), (A9 px py false), (.bool true), undef, undef, undef, undef, undef, undef, undef, undef, undef], defers := [] } : Act) := haZ.trans (by kernel_rfl)
  subst eZ
  clear haZ
  obtain ⟨h11, X11⟩ := F.al 11 rfl rfl
  replace RR : Hid (RB w w4 [((bs 11), (P9 px py false)), (g1_6, (P9 0 0 false)), (w.heap.size + 1, (Ar x)), (w.heap.size, (P9 px py false))]) := ⟨F.bw, (RowsAt.cons X11 (RowsAt.cons (F.row 2 rfl) (RowsAt.cons (F.row 1 rfl) (RowsAt.cons (F.row 0 rfl) RowsAt.nil))))⟩
  generalize bs 11 = g4_11 at *
  have k4_11_0 := Nat.lt_of_lt_of_le q0 h11
  have k4_11_1 := Nat.lt_of_lt_of_le q1 h11
  have k4_11_2 := Nat.lt_of_lt_of_le q2 h11
  clear F qT q0 q1 q2 h11 X11
  go_upto_region 7 with fail
  obtain ⟨q3, q2, q1, q0, qT⟩ := RR.out.r.lts
  refine wp_region_told (by kernel_rfl) (by kernel_rfl) (by kernel_rfl) [(w.heap.size, (P9 px py false)), (w.heap.size + 1, (Ar x)), (g1_6, (P9 0 0 false)), (g4_11, (P9 px py false))]
    [sV (.bool true),
     sV (.bool true),
     sV (A9 px py false),
     sV (A9 px py false),
     sV (.bool true),
     sV (.bool true),
     sV (.bool true),
     sV (.bool true),
     sV (.bool true),
     sV (.bool true)]
    (by kernel_rfl) RR.out.b (RowsAt.cons (RR.out.at 3 rfl) (RowsAt.cons (RR.out.at 2 rfl) (RowsAt.cons (RR.out.at 1 rfl) (RowsAt.cons (RR.out.at 0 rfl) RowsAt.nil)))) (StOk.of [] rfl StM.nil)
    (Obs.val (fun a' w' E => ob_move (.tmp 10) rfl (E.old 10 (by kernel_rfl)))
    (Obs.val (fun a' w' E => ob_move (.tmp 76) rfl (E.new (v := (.bool true)) 76 0 (by kernel_rfl) rfl))
    (Obs.gval rfl rfl (fun a' w' E => E.new 77 1 (by kernel_rfl) rfl) (fun a' w' E => ob_loada 26 (.tmp 9) rfl (E.old 9 (by kernel_rfl)) (E.row (g := g4_11) (c := (P9 px py false)) 3 rfl) Try.underlying26 rfl (by kernel_rfl) rfl)
    (Obs.gval rfl rfl (fun a' w' E => E.new 77 1 (by kernel_rfl) rfl) (fun a' w' E => ob_loada 26 (.tmp 3) rfl (E.old 3 (by kernel_rfl)) (E.row (g := w.heap.size) (c := (P9 px py false)) 0 rfl) Try.underlying26 rfl (by kernel_rfl) rfl)
    (Obs.gval rfl rfl (fun a' w' E => E.new 77 1 (by kernel_rfl) rfl) (fun a' w' E => ob_binOp .eql 26 (.tmp 78) (.tmp 79) 26 rfl (E.new (v := (A9 px py false)) 78 2 (by kernel_rfl) rfl) (E.new (v := (A9 px py false)) 79 3 (by kernel_rfl) rfl) (by simp [go_sem, hE1]))
    (Obs.val (fun a' w' E => ob_pick (.tmp 77) (.tmp 80) (.const (.bool false)) rfl (E.new (v := (.bool true)) 77 1 (by kernel_rfl) rfl) (E.new (v := (.bool true)) 80 4 (by kernel_rfl) rfl))
    (Obs.val (fun a' w' E => ob_move (.tmp 81) rfl (E.new (v := (.bool true)) 81 5 (by kernel_rfl) rfl))
    (Obs.gval rfl rfl (fun a' w' E => E.new 82 6 (by kernel_rfl) rfl) (fun a' w' E => ob_fcall 18 _ _ rfl (am0) (fc18 _ _) (hW.out w'))
    (Obs.val (fun a' w' E => ob_pick (.tmp 82) (.tmp 83) (.const (.bool false)) rfl (E.new (v := (.bool true)) 82 6 (by kernel_rfl) rfl) (E.new (v := (.bool true)) 83 7 (by kernel_rfl) rfl))
    (Obs.val (fun a' w' E => ob_assign (.tmp 84) rfl (E.new (v := (.bool true)) 84 8 (by kernel_rfl) rfl))
    Obs.nil)))))))))) ?_
  intro bs w5 aZ haZ F
  have eZ : aZ = ({ tmps := #[(A9 px py false), (U x), (.bool odd), (PT w.heap.size), (PT (w.heap.size + 1)), undef, (.bool true), (PT g1_6), (.bool false), (PT g4_11), (.bool true), (.tuple #[(A9 0 0 false), (.bool false)]), (U x), (.bool odd), (.tuple #[(A9 0 0 false), (.bool false)]), (A9 0 0 false), (.bool false), (.bool false), (.bool false), undef, undef, undef, undef, undef, undef, undef, undef, undef, undef, undef, undef, undef, undef, undef, undef, undef, undef, undef, undef, undef, undef, undef, undef, undef, undef, undef, undef, (.bool false), (.bool false), (.bool false), (.bool true), (.bool true), (A9 0 0 false), (A9 0 0 false), (.bool false), (.bool false), (.bool false), (A9 px py false), (.bool true), (.bool false), (.bool false), (PO w.heap.size 8), (.bool false), (.bool false), undef, (.tuple #[(A9 px py false), (.bool true)]), (PT w.heap.size), (U px), (PO w.heap.size 4), (PO w.heap.size 4), (B (l0 py)), (B v), (.bool po), (.tuple #[(A9 px py false), (.bool true)]), (A9 px py false), (.bool true), (.bool true), (.bool true), (A9 px py false), (A9 px py false), (.bool true), (.bool true), (.bool true), (.bool true), (.bool true)], defers := [] } : Act) := haZ.trans (by kernel_rfl)
  subst eZ
  clear haZ
  replace RR : Hid (RB w w5 [(g4_11, (P9 px py false)), (g1_6, (P9 0 0 false)), (w.heap.size + 1, (Ar x)), (w.heap.size, (P9 px py false))]) := ⟨F.bw, (RowsAt.cons (F.row 3 rfl) (RowsAt.cons (F.row 2 rfl) (RowsAt.cons (F.row 1 rfl) (RowsAt.cons (F.row 0 rfl) RowsAt.nil))))⟩
  clear F qT q0 q1 q2 q3
  go_wp2
  exact bodyPost_ret (v := (.bool true)) (by simp [results, Try.results7, go_sem]) rfl ⟨rfl, RR.out.b⟩
end Go.Proofs.Ythbindnkichimaa
