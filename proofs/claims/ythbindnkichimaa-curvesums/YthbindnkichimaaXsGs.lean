/- Raw walks of CurveSums, over letters. -/
import Derived.Test.YthbindnkichimaaXsMC
import Derived.Test.YthbindnkichimaaXsQc
import Derived.Test.YthbindnkichimaaXsEq
import Derived.WalkSmall
import Derived.Deep.Cut
import Derived.Deep.Light
namespace Go.Proofs.Ythbindnkichimaa
open Go.RowKit Go.Sort
set_option linter.unusedVariables false
set_option maxRecDepth 100000 in
set_option maxHeartbeats 4000000 in
theorem sums_a (px py sx sy ax ay cx cy : Nat) (pn sn an cn : Bool) (i k od : Nat) (hR : Does 11 #[(A9 px py pn)] (.bool false)) (hW : Does 18 #[] (.bool true)) 
    (w : World) : Calls Try.prog 6 #[(B i), (B k), (A9 px py pn)] w fun e w' => e = .returned (.bool true) ∧ Below w.heap.size w w' := by
  go_enter Try.func6, Try.ntmps6
  go_upto_region 1 with fail
  refine name_world _ ?_
  intro wF hF0
  have RR : Hid (RB w wF [(w.heap.size, (P9 px py pn))]) := by rw [hF0]; exact (rbN (rb0 w) (by simp))
  clear hF0
  obtain ⟨q0, qT⟩ := RR.out.r.lts
  refine wp_region_told (by kernel_rfl) (by kernel_rfl) (by kernel_rfl) [(w.heap.size, (P9 px py pn))]
    [sV (A9 px py pn),
     sV (.bool false),
     sV (.bool true)]
    (by kernel_rfl) RR.out.b (RowsAt.cons (RR.out.at 0 rfl) RowsAt.nil) (StOk.of [] rfl StM.nil)
    (Obs.val (fun a' w' E => ob_loada 26 (.tmp 5) rfl (E.old 5 (by kernel_rfl)) (E.row (g := w.heap.size) (c := (P9 px py pn)) 0 rfl) Try.underlying26 rfl (by kernel_rfl) rfl)
    (Obs.val (fun a' w' E => ob_fcall 11 _ _ rfl (am1 (E.new (v := (A9 px py pn)) 8 0 (by kernel_rfl) rfl)) (fc11 _ _) (hR.out w'))
    (Obs.val (fun a' w' E => ob_unOp .not 4 (.tmp 9) rfl (E.new (v := (.bool false)) 9 1 (by kernel_rfl) rfl) (by simp [go_sem]))
    Obs.nil))) ?_
  intro bs w1 aZ haZ F
  have eZ : aZ = ({ tmps := #[(B i), (B k), (A9 px py pn), undef, undef, (PT w.heap.size), (.bool false), undef, (A9 px py pn), (.bool false), (.bool true), undef, undef, undef, undef, undef, undef, undef, undef, undef, undef, undef, undef, undef, undef, undef, undef, undef, undef, undef, undef, undef, undef, undef, undef, undef, undef, undef, undef, undef, undef, undef, undef, undef, undef, undef, undef, undef, undef, undef, undef, undef, undef, undef, undef, undef, undef, undef, undef, undef, undef, undef, undef, undef], defers := [] } : Act) := haZ.trans (by kernel_rfl)
  subst eZ
  clear haZ
  replace RR : Hid (RB w w1 [(w.heap.size, (P9 px py pn))]) := ⟨F.bw, (RowsAt.cons (F.row 0 rfl) RowsAt.nil)⟩
  clear F qT q0
  clear wF
  go_upto_region 2 with fail
  obtain ⟨q0, qT⟩ := RR.out.r.lts
  refine wp_region_told (by kernel_rfl) (by kernel_rfl) (by kernel_rfl) [(w.heap.size, (P9 px py pn))]
    [sV (.bool true),
     sV (.bool true)]
    (by kernel_rfl) RR.out.b (RowsAt.cons (RR.out.at 0 rfl) RowsAt.nil) (StOk.of [] rfl StM.nil)
    (Obs.val (fun a' w' E => ob_fcall 18 _ _ rfl (am0) (fc18 _ _) (hW.out w'))
    (Obs.val (fun a' w' E => ob_assign (.tmp 11) rfl (E.new (v := (.bool true)) 11 0 (by kernel_rfl) rfl))
    Obs.nil)) ?_
  intro bs w2 aZ haZ F
  have eZ : aZ = ({ tmps := #[(B i), (B k), (A9 px py pn), undef, undef, (PT w.heap.size), (.bool true), undef, (A9 px py pn), (.bool false), (.bool true), (.bool true), undef, undef, undef, undef, undef, undef, undef, undef, undef, undef, undef, undef, undef, undef, undef, undef, undef, undef, undef, undef, undef, undef, undef, undef, undef, undef, undef, undef, undef, undef, undef, undef, undef, undef, undef, undef, undef, undef, undef, undef, undef, undef, undef, undef, undef, undef, undef, undef, undef, undef, undef, undef], defers := [] } : Act) := haZ.trans (by kernel_rfl)
  subst eZ
  clear haZ
  replace RR : Hid (RB w w2 [(w.heap.size, (P9 px py pn))]) := ⟨F.bw, (RowsAt.cons (F.row 0 rfl) RowsAt.nil)⟩
  clear F qT q0
  go_wp2
  exact bodyPost_ret (v := (.bool true)) (by simp [results, Try.results6, go_sem]) rfl ⟨rfl, RR.out.b⟩
set_option maxRecDepth 100000 in
set_option maxHeartbeats 4000000 in
theorem sums_b (px py sx sy ax ay cx cy : Nat) (pn sn an cn : Bool) (i k od : Nat) (u : Nat) (hu : IntKind.u64.wrap ((i : Int) + (k : Int)) = (u : Int)) (hl : ¬ (u : Int) < (i : Int)) (hR : Does 11 #[(A9 px py pn)] (.bool true)) (hMs : Does 23 #[(.agg #[B u, .int .u64 0, .int .u64 0, .int .u64 0]), (A9 px py pn)] (A9 sx sy sn)) (hMi : Does 23 #[(.agg #[B i, .int .u64 0, .int .u64 0, .int .u64 0]), (A9 px py pn)] (A9 ax ay an)) (hMk : Does 23 #[(.agg #[B k, .int .u64 0, .int .u64 0, .int .u64 0]), (A9 px py pn)] (A9 cx cy cn)) (hA : Does 21 #[(A9 ax ay an), (A9 cx cy cn)] (A9 sx sy sn)) (hS : Does 25 #[(.agg #[B i, .int .u64 0, .int .u64 0, .int .u64 0]), (A9 px py pn), (.agg #[B k, .int .u64 0, .int .u64 0, .int .u64 0]), (A9 px py pn)] (A9 sx sy sn)) (hO : Does 14 #[] (U od)) (hMo : Does 23 #[(U od), (A9 px py pn)] (A9 0 0 true)) (hM1 : Does 23 #[(.agg #[.int .u64 1, .int .u64 0, .int .u64 0, .int .u64 0]), (A9 px py pn)] (A9 px py pn)) (hW : Does 18 #[] (.bool true)) (hE0 : ∀ w, (Op.equalIn 10000 26 (A9 sx sy sn) (A9 sx sy sn)).run Try.prog w = .ok true w) (hE1 : ∀ w, (Op.equalIn 10000 26 (A9 px py pn) (A9 px py pn)).run Try.prog w = .ok true w)
    (w : World) : Calls Try.prog 6 #[(B i), (B k), (A9 px py pn)] w fun e w' => e = .returned (.bool true) ∧ Below w.heap.size w w' := by
  go_enter Try.func6, Try.ntmps6
  go_upto_region 1 with fail
  refine name_world _ ?_
  intro wF hF0
  have RR : Hid (RB w wF [(w.heap.size, (P9 px py pn))]) := by rw [hF0]; exact (rbN (rb0 w) (by simp))
  clear hF0
  obtain ⟨q0, qT⟩ := RR.out.r.lts
  refine wp_region_told (by kernel_rfl) (by kernel_rfl) (by kernel_rfl) [(w.heap.size, (P9 px py pn))]
    [sV (A9 px py pn),
     sV (.bool true),
     sV (.bool false)]
    (by kernel_rfl) RR.out.b (RowsAt.cons (RR.out.at 0 rfl) RowsAt.nil) (StOk.of [] rfl StM.nil)
    (Obs.val (fun a' w' E => ob_loada 26 (.tmp 5) rfl (E.old 5 (by kernel_rfl)) (E.row (g := w.heap.size) (c := (P9 px py pn)) 0 rfl) Try.underlying26 rfl (by kernel_rfl) rfl)
    (Obs.val (fun a' w' E => ob_fcall 11 _ _ rfl (am1 (E.new (v := (A9 px py pn)) 8 0 (by kernel_rfl) rfl)) (fc11 _ _) (hR.out w'))
    (Obs.val (fun a' w' E => ob_unOp .not 4 (.tmp 9) rfl (E.new (v := (.bool true)) 9 1 (by kernel_rfl) rfl) (by simp [go_sem]))
    Obs.nil))) ?_
  intro bs w1 aZ haZ F
  have eZ : aZ = ({ tmps := #[(B i), (B k), (A9 px py pn), undef, undef, (PT w.heap.size), (.bool false), undef, (A9 px py pn), (.bool true), (.bool false), undef, undef, undef, undef, undef, undef, undef, undef, undef, undef, undef, undef, undef, undef, undef, undef, undef, undef, undef, undef, undef, undef, undef, undef, undef, undef, undef, undef, undef, undef, undef, undef, undef, undef, undef, undef, undef, undef, undef, undef, undef, undef, undef, undef, undef, undef, undef, undef, undef, undef, undef, undef, undef], defers := [] } : Act) := haZ.trans (by kernel_rfl)
  subst eZ
  clear haZ
  replace RR : Hid (RB w w1 [(w.heap.size, (P9 px py pn))]) := ⟨F.bw, (RowsAt.cons (F.row 0 rfl) RowsAt.nil)⟩
  clear F qT q0
  clear wF
  go_upto_region 3 with fail
  obtain ⟨q0, qT⟩ := RR.out.r.lts
  refine wp_region_told (by kernel_rfl) (by kernel_rfl) (by kernel_rfl) [(w.heap.size, (P9 px py pn))]
    [sV (B i),
     sV (B k),
     sV (B u),
     sV (.agg #[B u, .int .u64 0, .int .u64 0, .int .u64 0]),
     sA (fun g => .pointer (some ⟨g, 0, none⟩)) 5 Zr #[B u, .int .u64 0, .int .u64 0, .int .u64 0],
     sS 4]
    (by kernel_rfl) RR.out.b (RowsAt.cons (RR.out.at 0 rfl) RowsAt.nil) (StOk.of [] rfl StM.nil)
    (Obs.val (fun a' w' E => ob_move (.tmp 0) rfl (E.old 0 (by kernel_rfl)))
    (Obs.val (fun a' w' E => ob_move (.tmp 1) rfl (E.old 1 (by kernel_rfl)))
    (Obs.val (fun a' w' E => ob_binOp .add 22 (.tmp 12) (.tmp 13) 22 rfl (E.new (v := (B i)) 12 0 (by kernel_rfl) rfl) (E.new (v := (B k)) 13 1 (by kernel_rfl) rfl) (by simp [go_sem, hu]))
    (Obs.val (fun a' w' E => ob_build 24 _ rfl (pm1 (E.new (v := (B u)) 14 2 (by kernel_rfl) rfl)) (bd24_0i _ w'))
    (Obs.alloc (fun a' w' E => ob_alloc (t := 24) (by simp [opAt, execOp, go_sem]))
    (Obs.sta rfl (fun a' w' g E ha hr => ob_storea 24 (.tmp 7) (.tmp 15) rfl (ha 7 (by kernel_rfl)) (E.new (v := (.agg #[B u, .int .u64 0, .int .u64 0, .int .u64 0])) 15 3 (by kernel_rfl) rfl) rfl hr (by kernel_rfl) (Nat.le_of_ble_eq_true rfl) (by kernel_rfl) rfl)
    Obs.nil)))))) ?_
  intro bs w2 aZ haZ F
  have eZ : aZ = ({ tmps := #[(B i), (B k), (A9 px py pn), undef, undef, (PT w.heap.size), (.bool false), (PT ((bs 4))), (A9 px py pn), (.bool true), (.bool false), undef, (B i), (B k), (B u), (.agg #[B u, .int .u64 0, .int .u64 0, .int .u64 0]), undef, undef, undef, undef, undef, undef, undef, undef, undef, undef, undef, undef, undef, undef, undef, undef, undef, undef, undef, undef, undef, undef, undef, undef, undef, undef, undef, undef, undef, undef, undef, undef, undef, undef, undef, undef, undef, undef, undef, undef, undef, undef, undef, undef, undef, undef, undef, undef], defers := [] } : Act) := haZ.trans (by kernel_rfl)
  subst eZ
  clear haZ
  obtain ⟨h4, X4⟩ := F.al 4 rfl rfl
  replace RR : Hid (RB w w2 [((bs 4), #[B u, .int .u64 0, .int .u64 0, .int .u64 0]), (w.heap.size, (P9 px py pn))]) := ⟨F.bw, (RowsAt.cons X4 (RowsAt.cons (F.row 0 rfl) RowsAt.nil))⟩
  generalize bs 4 = g2_4 at *
  have k2_4_0 := Nat.lt_of_lt_of_le q0 h4
  clear F qT q0 h4 X4
  go_upto_region 4 with fail
  obtain ⟨q1, q0, qT⟩ := RR.out.r.lts
  refine wp_region_told (by kernel_rfl) (by kernel_rfl) (by kernel_rfl) [(w.heap.size, (P9 px py pn)), (g2_4, #[B u, .int .u64 0, .int .u64 0, .int .u64 0])]
    [sV (B i),
     sV (B k),
     sV (B u),
     sV (B i),
     sV (.bool false)]
    (by kernel_rfl) RR.out.b (RowsAt.cons (RR.out.at 1 rfl) (RowsAt.cons (RR.out.at 0 rfl) RowsAt.nil)) (StOk.of [] rfl StM.nil)
    (Obs.val (fun a' w' E => ob_move (.tmp 0) rfl (E.old 0 (by kernel_rfl)))
    (Obs.val (fun a' w' E => ob_move (.tmp 1) rfl (E.old 1 (by kernel_rfl)))
    (Obs.val (fun a' w' E => ob_binOp .add 22 (.tmp 16) (.tmp 17) 22 rfl (E.new (v := (B i)) 16 0 (by kernel_rfl) rfl) (E.new (v := (B k)) 17 1 (by kernel_rfl) rfl) (by simp [go_sem, hu]))
    (Obs.val (fun a' w' E => ob_move (.tmp 0) rfl (E.old 0 (by kernel_rfl)))
    (Obs.val (fun a' w' E => ob_binOp .lss 22 (.tmp 18) (.tmp 19) 22 rfl (E.new (v := (B u)) 18 2 (by kernel_rfl) rfl) (E.new (v := (B i)) 19 3 (by kernel_rfl) rfl) (by simp [go_sem, hl]))
    Obs.nil))))) ?_
  intro bs w3 aZ haZ F
  have eZ : aZ = ({ tmps := #[(B i), (B k), (A9 px py pn), undef, undef, (PT w.heap.size), (.bool false), (PT g2_4), (A9 px py pn), (.bool true), (.bool false), undef, (B i), (B k), (B u), (.agg #[B u, .int .u64 0, .int .u64 0, .int .u64 0]), (B i), (B k), (B u), (B i), (.bool false), undef, undef, undef, undef, undef, undef, undef, undef, undef, undef, undef, undef, undef, undef, undef, undef, undef, undef, undef, undef, undef, undef, undef, undef, undef, undef, undef, undef, undef, undef, undef, undef, undef, undef, undef, undef, undef, undef, undef, undef, undef, undef, undef], defers := [] } : Act) := haZ.trans (by kernel_rfl)
  subst eZ
  clear haZ
  replace RR : Hid (RB w w3 [(g2_4, #[B u, .int .u64 0, .int .u64 0, .int .u64 0]), (w.heap.size, (P9 px py pn))]) := ⟨F.bw, (RowsAt.cons (F.row 1 rfl) (RowsAt.cons (F.row 0 rfl) RowsAt.nil))⟩
  clear F qT q0 q1
  go_upto_region 6 with fail
  obtain ⟨q1, q0, qT⟩ := RR.out.r.lts
  refine wp_region_told (by kernel_rfl) (by kernel_rfl) (by kernel_rfl) [(w.heap.size, (P9 px py pn)), (g2_4, #[B u, .int .u64 0, .int .u64 0, .int .u64 0])]
    [sV (.agg #[B u, .int .u64 0, .int .u64 0, .int .u64 0]),
     sV (A9 px py pn),
     sV (A9 sx sy sn),
     sV (B i),
     sV (.agg #[B i, .int .u64 0, .int .u64 0, .int .u64 0]),
     sV (A9 px py pn),
     sV (A9 ax ay an),
     sV (B k),
     sV (.agg #[B k, .int .u64 0, .int .u64 0, .int .u64 0]),
     sV (A9 px py pn),
     sV (A9 cx cy cn),
     sV (A9 sx sy sn),
     sV (.bool true),
     sV (.bool true),
     sV (B i),
     sV (.agg #[B i, .int .u64 0, .int .u64 0, .int .u64 0]),
     sV (A9 px py pn),
     sV (B k),
     sV (.agg #[B k, .int .u64 0, .int .u64 0, .int .u64 0]),
     sV (A9 px py pn),
     sV (A9 sx sy sn),
     sV (.agg #[B u, .int .u64 0, .int .u64 0, .int .u64 0]),
     sV (A9 px py pn),
     sV (A9 sx sy sn),
     sV (.bool true),
     sV (.bool true),
     sV (.bool true),
     sV (U od),
     sV (A9 px py pn),
     sV (A9 0 0 true),
     sV (.bool true),
     sV (.bool true),
     sV (.bool true),
     sV (.agg #[.int .u64 1, .int .u64 0, .int .u64 0, .int .u64 0]),
     sV (A9 px py pn),
     sV (A9 px py pn),
     sV (A9 px py pn),
     sV (.bool true),
     sV (.bool true),
     sV (.bool true),
     sV (.bool true),
     sV (.bool true),
     sV (.bool true)]
    (by kernel_rfl) RR.out.b (RowsAt.cons (RR.out.at 1 rfl) (RowsAt.cons (RR.out.at 0 rfl) RowsAt.nil)) (StOk.of [] rfl StM.nil)
    (Obs.val (fun a' w' E => ob_loada 24 (.tmp 7) rfl (E.old 7 (by kernel_rfl)) (E.row (g := g2_4) (c := #[B u, .int .u64 0, .int .u64 0, .int .u64 0]) 1 rfl) Try.underlying24 rfl (by kernel_rfl) rfl)
    (Obs.val (fun a' w' E => ob_loada 26 (.tmp 5) rfl (E.old 5 (by kernel_rfl)) (E.row (g := w.heap.size) (c := (P9 px py pn)) 0 rfl) Try.underlying26 rfl (by kernel_rfl) rfl)
    (Obs.val (fun a' w' E => ob_fcall 23 _ _ rfl (am2 (E.new (v := (.agg #[B u, .int .u64 0, .int .u64 0, .int .u64 0])) 22 0 (by kernel_rfl) rfl) (E.new (v := (A9 px py pn)) 23 1 (by kernel_rfl) rfl)) (fc23 _ _) (hMs.out w'))
    (Obs.val (fun a' w' E => ob_move (.tmp 0) rfl (E.old 0 (by kernel_rfl)))
    (Obs.val (fun a' w' E => ob_build 24 _ rfl (pm1 (E.new (v := (B i)) 25 3 (by kernel_rfl) rfl)) (bd24_0i _ w'))
    (Obs.val (fun a' w' E => ob_loada 26 (.tmp 5) rfl (E.old 5 (by kernel_rfl)) (E.row (g := w.heap.size) (c := (P9 px py pn)) 0 rfl) Try.underlying26 rfl (by kernel_rfl) rfl)
    (Obs.val (fun a' w' E => ob_fcall 23 _ _ rfl (am2 (E.new (v := (.agg #[B i, .int .u64 0, .int .u64 0, .int .u64 0])) 26 4 (by kernel_rfl) rfl) (E.new (v := (A9 px py pn)) 27 5 (by kernel_rfl) rfl)) (fc23 _ _) (hMi.out w'))
    (Obs.val (fun a' w' E => ob_move (.tmp 1) rfl (E.old 1 (by kernel_rfl)))
    (Obs.val (fun a' w' E => ob_build 24 _ rfl (pm1 (E.new (v := (B k)) 29 7 (by kernel_rfl) rfl)) (bd24_0i _ w'))
    (Obs.val (fun a' w' E => ob_loada 26 (.tmp 5) rfl (E.old 5 (by kernel_rfl)) (E.row (g := w.heap.size) (c := (P9 px py pn)) 0 rfl) Try.underlying26 rfl (by kernel_rfl) rfl)
    (Obs.val (fun a' w' E => ob_fcall 23 _ _ rfl (am2 (E.new (v := (.agg #[B k, .int .u64 0, .int .u64 0, .int .u64 0])) 30 8 (by kernel_rfl) rfl) (E.new (v := (A9 px py pn)) 31 9 (by kernel_rfl) rfl)) (fc23 _ _) (hMk.out w'))
    (Obs.val (fun a' w' E => ob_fcall 21 _ _ rfl (am2 (E.new (v := (A9 ax ay an)) 28 6 (by kernel_rfl) rfl) (E.new (v := (A9 cx cy cn)) 32 10 (by kernel_rfl) rfl)) (fc21 _ _) (hA.out w'))
    (Obs.val (fun a' w' E => ob_binOp .eql 26 (.tmp 24) (.tmp 33) 26 rfl (E.new (v := (A9 sx sy sn)) 24 2 (by kernel_rfl) rfl) (E.new (v := (A9 sx sy sn)) 33 11 (by kernel_rfl) rfl) (by simp [go_sem, hE0]))
    (Obs.val (fun a' w' E => ob_move (.tmp 34) rfl (E.new (v := (.bool true)) 34 12 (by kernel_rfl) rfl))
    (Obs.gval rfl rfl (fun a' w' E => E.new 35 13 (by kernel_rfl) rfl) (fun a' w' E => ob_move (.tmp 0) rfl (E.old 0 (by kernel_rfl)))
    (Obs.gval rfl rfl (fun a' w' E => E.new 35 13 (by kernel_rfl) rfl) (fun a' w' E => ob_build 24 _ rfl (pm1 (E.new (v := (B i)) 36 14 (by kernel_rfl) rfl)) (bd24_0i _ w'))
    (Obs.gval rfl rfl (fun a' w' E => E.new 35 13 (by kernel_rfl) rfl) (fun a' w' E => ob_loada 26 (.tmp 5) rfl (E.old 5 (by kernel_rfl)) (E.row (g := w.heap.size) (c := (P9 px py pn)) 0 rfl) Try.underlying26 rfl (by kernel_rfl) rfl)
    (Obs.gval rfl rfl (fun a' w' E => E.new 35 13 (by kernel_rfl) rfl) (fun a' w' E => ob_move (.tmp 1) rfl (E.old 1 (by kernel_rfl)))
    (Obs.gval rfl rfl (fun a' w' E => E.new 35 13 (by kernel_rfl) rfl) (fun a' w' E => ob_build 24 _ rfl (pm1 (E.new (v := (B k)) 39 17 (by kernel_rfl) rfl)) (bd24_0i _ w'))
    (Obs.gval rfl rfl (fun a' w' E => E.new 35 13 (by kernel_rfl) rfl) (fun a' w' E => ob_loada 26 (.tmp 5) rfl (E.old 5 (by kernel_rfl)) (E.row (g := w.heap.size) (c := (P9 px py pn)) 0 rfl) Try.underlying26 rfl (by kernel_rfl) rfl)
    (Obs.gval rfl rfl (fun a' w' E => E.new 35 13 (by kernel_rfl) rfl) (fun a' w' E => ob_fcall 25 _ _ rfl (am4 (E.new (v := (.agg #[B i, .int .u64 0, .int .u64 0, .int .u64 0])) 37 15 (by kernel_rfl) rfl) (E.new (v := (A9 px py pn)) 38 16 (by kernel_rfl) rfl) (E.new (v := (.agg #[B k, .int .u64 0, .int .u64 0, .int .u64 0])) 40 18 (by kernel_rfl) rfl) (E.new (v := (A9 px py pn)) 41 19 (by kernel_rfl) rfl)) (fc25 _ _) (hS.out w'))
    (Obs.gval rfl rfl (fun a' w' E => E.new 35 13 (by kernel_rfl) rfl) (fun a' w' E => ob_loada 24 (.tmp 7) rfl (E.old 7 (by kernel_rfl)) (E.row (g := g2_4) (c := #[B u, .int .u64 0, .int .u64 0, .int .u64 0]) 1 rfl) Try.underlying24 rfl (by kernel_rfl) rfl)
    (Obs.gval rfl rfl (fun a' w' E => E.new 35 13 (by kernel_rfl) rfl) (fun a' w' E => ob_loada 26 (.tmp 5) rfl (E.old 5 (by kernel_rfl)) (E.row (g := w.heap.size) (c := (P9 px py pn)) 0 rfl) Try.underlying26 rfl (by kernel_rfl) rfl)
    (Obs.gval rfl rfl (fun a' w' E => E.new 35 13 (by kernel_rfl) rfl) (fun a' w' E => ob_fcall 23 _ _ rfl (am2 (E.new (v := (.agg #[B u, .int .u64 0, .int .u64 0, .int .u64 0])) 43 21 (by kernel_rfl) rfl) (E.new (v := (A9 px py pn)) 44 22 (by kernel_rfl) rfl)) (fc23 _ _) (hMs.out w'))
    (Obs.gval rfl rfl (fun a' w' E => E.new 35 13 (by kernel_rfl) rfl) (fun a' w' E => ob_binOp .eql 26 (.tmp 42) (.tmp 45) 26 rfl (E.new (v := (A9 sx sy sn)) 42 20 (by kernel_rfl) rfl) (E.new (v := (A9 sx sy sn)) 45 23 (by kernel_rfl) rfl) (by simp [go_sem, hE0]))
    (Obs.val (fun a' w' E => ob_pick (.tmp 35) (.tmp 46) (.const (.bool false)) rfl (E.new (v := (.bool true)) 35 13 (by kernel_rfl) rfl) (E.new (v := (.bool true)) 46 24 (by kernel_rfl) rfl))
    (Obs.val (fun a' w' E => ob_move (.tmp 47) rfl (E.new (v := (.bool true)) 47 25 (by kernel_rfl) rfl))
    (Obs.gval rfl rfl (fun a' w' E => E.new 48 26 (by kernel_rfl) rfl) (fun a' w' E => ob_fcall 14 _ _ rfl (am0) (fc14 _ _) (hO.out w'))
    (Obs.gval rfl rfl (fun a' w' E => E.new 48 26 (by kernel_rfl) rfl) (fun a' w' E => ob_loada 26 (.tmp 5) rfl (E.old 5 (by kernel_rfl)) (E.row (g := w.heap.size) (c := (P9 px py pn)) 0 rfl) Try.underlying26 rfl (by kernel_rfl) rfl)
    (Obs.gval rfl rfl (fun a' w' E => E.new 48 26 (by kernel_rfl) rfl) (fun a' w' E => ob_fcall 23 _ _ rfl (am2 (E.new (v := (U od)) 49 27 (by kernel_rfl) rfl) (E.new (v := (A9 px py pn)) 50 28 (by kernel_rfl) rfl)) (fc23 _ _) (hMo.out w'))
    (Obs.gval rfl rfl (fun a' w' E => E.new 48 26 (by kernel_rfl) rfl) (fun a' w' E => ob_field 26 (.tmp 51) 2 rfl (E.new (v := (A9 0 0 true)) 51 29 (by kernel_rfl) rfl) (fd26_2 _ _ _ w'))
    (Obs.val (fun a' w' E => ob_pick (.tmp 48) (.tmp 52) (.const (.bool false)) rfl (E.new (v := (.bool true)) 48 26 (by kernel_rfl) rfl) (E.new (v := (.bool true)) 52 30 (by kernel_rfl) rfl))
    (Obs.val (fun a' w' E => ob_move (.tmp 53) rfl (E.new (v := (.bool true)) 53 31 (by kernel_rfl) rfl))
    (Obs.gval rfl rfl (fun a' w' E => E.new 54 32 (by kernel_rfl) rfl) (fun a' w' E => ob_build 24 _ rfl (pm1 (evc a' (.int .u64 1))) (bd24_0i _ w'))
    (Obs.gval rfl rfl (fun a' w' E => E.new 54 32 (by kernel_rfl) rfl) (fun a' w' E => ob_loada 26 (.tmp 5) rfl (E.old 5 (by kernel_rfl)) (E.row (g := w.heap.size) (c := (P9 px py pn)) 0 rfl) Try.underlying26 rfl (by kernel_rfl) rfl)
    (Obs.gval rfl rfl (fun a' w' E => E.new 54 32 (by kernel_rfl) rfl) (fun a' w' E => ob_fcall 23 _ _ rfl (am2 (E.new (v := (.agg #[.int .u64 1, .int .u64 0, .int .u64 0, .int .u64 0])) 55 33 (by kernel_rfl) rfl) (E.new (v := (A9 px py pn)) 56 34 (by kernel_rfl) rfl)) (fc23 _ _) (hM1.out w'))
    (Obs.gval rfl rfl (fun a' w' E => E.new 54 32 (by kernel_rfl) rfl) (fun a' w' E => ob_loada 26 (.tmp 5) rfl (E.old 5 (by kernel_rfl)) (E.row (g := w.heap.size) (c := (P9 px py pn)) 0 rfl) Try.underlying26 rfl (by kernel_rfl) rfl)
    (Obs.gval rfl rfl (fun a' w' E => E.new 54 32 (by kernel_rfl) rfl) (fun a' w' E => ob_binOp .eql 26 (.tmp 57) (.tmp 58) 26 rfl (E.new (v := (A9 px py pn)) 57 35 (by kernel_rfl) rfl) (E.new (v := (A9 px py pn)) 58 36 (by kernel_rfl) rfl) (by simp [go_sem, hE1]))
    (Obs.val (fun a' w' E => ob_pick (.tmp 54) (.tmp 59) (.const (.bool false)) rfl (E.new (v := (.bool true)) 54 32 (by kernel_rfl) rfl) (E.new (v := (.bool true)) 59 37 (by kernel_rfl) rfl))
    (Obs.val (fun a' w' E => ob_move (.tmp 60) rfl (E.new (v := (.bool true)) 60 38 (by kernel_rfl) rfl))
    (Obs.gval rfl rfl (fun a' w' E => E.new 61 39 (by kernel_rfl) rfl) (fun a' w' E => ob_fcall 18 _ _ rfl (am0) (fc18 _ _) (hW.out w'))
    (Obs.val (fun a' w' E => ob_pick (.tmp 61) (.tmp 62) (.const (.bool false)) rfl (E.new (v := (.bool true)) 61 39 (by kernel_rfl) rfl) (E.new (v := (.bool true)) 62 40 (by kernel_rfl) rfl))
    (Obs.val (fun a' w' E => ob_assign (.tmp 63) rfl (E.new (v := (.bool true)) 63 41 (by kernel_rfl) rfl))
    Obs.nil))))))))))))))))))))))))))))))))))))))))))) ?_
  intro bs w4 aZ haZ F
  have eZ : aZ = ({ tmps := #[(B i), (B k), (A9 px py pn), undef, undef, (PT w.heap.size), (.bool true), (PT g2_4), (A9 px py pn), (.bool true), (.bool false), undef, (B i), (B k), (B u), (.agg #[B u, .int .u64 0, .int .u64 0, .int .u64 0]), (B i), (B k), (B u), (B i), (.bool false), undef, (.agg #[B u, .int .u64 0, .int .u64 0, .int .u64 0]), (A9 px py pn), (A9 sx sy sn), (B i), (.agg #[B i, .int .u64 0, .int .u64 0, .int .u64 0]), (A9 px py pn), (A9 ax ay an), (B k), (.agg #[B k, .int .u64 0, .int .u64 0, .int .u64 0]), (A9 px py pn), (A9 cx cy cn), (A9 sx sy sn), (.bool true), (.bool true), (B i), (.agg #[B i, .int .u64 0, .int .u64 0, .int .u64 0]), (A9 px py pn), (B k), (.agg #[B k, .int .u64 0, .int .u64 0, .int .u64 0]), (A9 px py pn), (A9 sx sy sn), (.agg #[B u, .int .u64 0, .int .u64 0, .int .u64 0]), (A9 px py pn), (A9 sx sy sn), (.bool true), (.bool true), (.bool true), (U od), (A9 px py pn), (A9 0 0 true), (.bool true), (.bool true), (.bool true), (.agg #[.int .u64 1, .int .u64 0, .int .u64 0, .int .u64 0]), (A9 px py pn), (A9 px py pn), (A9 px py pn), (.bool true), (.bool true), (.bool true), (.bool true), (.bool true)], defers := [] } : Act) := haZ.trans (by kernel_rfl)
  subst eZ
  clear haZ
  replace RR : Hid (RB w w4 [(g2_4, #[B u, .int .u64 0, .int .u64 0, .int .u64 0]), (w.heap.size, (P9 px py pn))]) := ⟨F.bw, (RowsAt.cons (F.row 1 rfl) (RowsAt.cons (F.row 0 rfl) RowsAt.nil))⟩
  clear F qT q0 q1
  go_wp2
  exact bodyPost_ret (v := (.bool true)) (by simp [results, Try.results6, go_sem]) rfl ⟨rfl, RR.out.b⟩
set_option maxRecDepth 100000 in
set_option maxHeartbeats 4000000 in
theorem sums_c (px py sx sy ax ay cx cy : Nat) (pn sn an cn : Bool) (i k od : Nat) (u : Nat) (hu : IntKind.u64.wrap ((i : Int) + (k : Int)) = (u : Int)) (hl : (u : Int) < (i : Int)) (hR : Does 11 #[(A9 px py pn)] (.bool true)) (hMs : Does 23 #[(.agg #[B u, .int .u64 1, .int .u64 0, .int .u64 0]), (A9 px py pn)] (A9 sx sy sn)) (hMi : Does 23 #[(.agg #[B i, .int .u64 0, .int .u64 0, .int .u64 0]), (A9 px py pn)] (A9 ax ay an)) (hMk : Does 23 #[(.agg #[B k, .int .u64 0, .int .u64 0, .int .u64 0]), (A9 px py pn)] (A9 cx cy cn)) (hA : Does 21 #[(A9 ax ay an), (A9 cx cy cn)] (A9 sx sy sn)) (hS : Does 25 #[(.agg #[B i, .int .u64 0, .int .u64 0, .int .u64 0]), (A9 px py pn), (.agg #[B k, .int .u64 0, .int .u64 0, .int .u64 0]), (A9 px py pn)] (A9 sx sy sn)) (hO : Does 14 #[] (U od)) (hMo : Does 23 #[(U od), (A9 px py pn)] (A9 0 0 true)) (hM1 : Does 23 #[(.agg #[.int .u64 1, .int .u64 0, .int .u64 0, .int .u64 0]), (A9 px py pn)] (A9 px py pn)) (hW : Does 18 #[] (.bool true)) (hE0 : ∀ w, (Op.equalIn 10000 26 (A9 sx sy sn) (A9 sx sy sn)).run Try.prog w = .ok true w) (hE1 : ∀ w, (Op.equalIn 10000 26 (A9 px py pn) (A9 px py pn)).run Try.prog w = .ok true w)
    (w : World) : Calls Try.prog 6 #[(B i), (B k), (A9 px py pn)] w fun e w' => e = .returned (.bool true) ∧ Below w.heap.size w w' := by
  go_enter Try.func6, Try.ntmps6
  go_upto_region 1 with fail
  refine name_world _ ?_
  intro wF hF0
  have RR : Hid (RB w wF [(w.heap.size, (P9 px py pn))]) := by rw [hF0]; exact (rbN (rb0 w) (by simp))
  clear hF0
  obtain ⟨q0, qT⟩ := RR.out.r.lts
  refine wp_region_told (by kernel_rfl) (by kernel_rfl) (by kernel_rfl) [(w.heap.size, (P9 px py pn))]
    [sV (A9 px py pn),
     sV (.bool true),
     sV (.bool false)]
    (by kernel_rfl) RR.out.b (RowsAt.cons (RR.out.at 0 rfl) RowsAt.nil) (StOk.of [] rfl StM.nil)
    (Obs.val (fun a' w' E => ob_loada 26 (.tmp 5) rfl (E.old 5 (by kernel_rfl)) (E.row (g := w.heap.size) (c := (P9 px py pn)) 0 rfl) Try.underlying26 rfl (by kernel_rfl) rfl)
    (Obs.val (fun a' w' E => ob_fcall 11 _ _ rfl (am1 (E.new (v := (A9 px py pn)) 8 0 (by kernel_rfl) rfl)) (fc11 _ _) (hR.out w'))
    (Obs.val (fun a' w' E => ob_unOp .not 4 (.tmp 9) rfl (E.new (v := (.bool true)) 9 1 (by kernel_rfl) rfl) (by simp [go_sem]))
    Obs.nil))) ?_
  intro bs w1 aZ haZ F
  have eZ : aZ = ({ tmps := #[(B i), (B k), (A9 px py pn), undef, undef, (PT w.heap.size), (.bool false), undef, (A9 px py pn), (.bool true), (.bool false), undef, undef, undef, undef, undef, undef, undef, undef, undef, undef, undef, undef, undef, undef, undef, undef, undef, undef, undef, undef, undef, undef, undef, undef, undef, undef, undef, undef, undef, undef, undef, undef, undef, undef, undef, undef, undef, undef, undef, undef, undef, undef, undef, undef, undef, undef, undef, undef, undef, undef, undef, undef, undef], defers := [] } : Act) := haZ.trans (by kernel_rfl)
  subst eZ
  clear haZ
  replace RR : Hid (RB w w1 [(w.heap.size, (P9 px py pn))]) := ⟨F.bw, (RowsAt.cons (F.row 0 rfl) RowsAt.nil)⟩
  clear F qT q0
  clear wF
  go_upto_region 3 with fail
  obtain ⟨q0, qT⟩ := RR.out.r.lts
  refine wp_region_told (by kernel_rfl) (by kernel_rfl) (by kernel_rfl) [(w.heap.size, (P9 px py pn))]
    [sV (B i),
     sV (B k),
     sV (B u),
     sV (.agg #[B u, .int .u64 0, .int .u64 0, .int .u64 0]),
     sA (fun g => .pointer (some ⟨g, 0, none⟩)) 5 Zr #[B u, .int .u64 0, .int .u64 0, .int .u64 0],
     sS 4]
    (by kernel_rfl) RR.out.b (RowsAt.cons (RR.out.at 0 rfl) RowsAt.nil) (StOk.of [] rfl StM.nil)
    (Obs.val (fun a' w' E => ob_move (.tmp 0) rfl (E.old 0 (by kernel_rfl)))
    (Obs.val (fun a' w' E => ob_move (.tmp 1) rfl (E.old 1 (by kernel_rfl)))
    (Obs.val (fun a' w' E => ob_binOp .add 22 (.tmp 12) (.tmp 13) 22 rfl (E.new (v := (B i)) 12 0 (by kernel_rfl) rfl) (E.new (v := (B k)) 13 1 (by kernel_rfl) rfl) (by simp [go_sem, hu]))
    (Obs.val (fun a' w' E => ob_build 24 _ rfl (pm1 (E.new (v := (B u)) 14 2 (by kernel_rfl) rfl)) (bd24_0i _ w'))
    (Obs.alloc (fun a' w' E => ob_alloc (t := 24) (by simp [opAt, execOp, go_sem]))
    (Obs.sta rfl (fun a' w' g E ha hr => ob_storea 24 (.tmp 7) (.tmp 15) rfl (ha 7 (by kernel_rfl)) (E.new (v := (.agg #[B u, .int .u64 0, .int .u64 0, .int .u64 0])) 15 3 (by kernel_rfl) rfl) rfl hr (by kernel_rfl) (Nat.le_of_ble_eq_true rfl) (by kernel_rfl) rfl)
    Obs.nil)))))) ?_
  intro bs w2 aZ haZ F
  have eZ : aZ = ({ tmps := #[(B i), (B k), (A9 px py pn), undef, undef, (PT w.heap.size), (.bool false), (PT ((bs 4))), (A9 px py pn), (.bool true), (.bool false), undef, (B i), (B k), (B u), (.agg #[B u, .int .u64 0, .int .u64 0, .int .u64 0]), undef, undef, undef, undef, undef, undef, undef, undef, undef, undef, undef, undef, undef, undef, undef, undef, undef, undef, undef, undef, undef, undef, undef, undef, undef, undef, undef, undef, undef, undef, undef, undef, undef, undef, undef, undef, undef, undef, undef, undef, undef, undef, undef, undef, undef, undef, undef, undef], defers := [] } : Act) := haZ.trans (by kernel_rfl)
  subst eZ
  clear haZ
  obtain ⟨h4, X4⟩ := F.al 4 rfl rfl
  replace RR : Hid (RB w w2 [((bs 4), #[B u, .int .u64 0, .int .u64 0, .int .u64 0]), (w.heap.size, (P9 px py pn))]) := ⟨F.bw, (RowsAt.cons X4 (RowsAt.cons (F.row 0 rfl) RowsAt.nil))⟩
  generalize bs 4 = g2_4 at *
  have k2_4_0 := Nat.lt_of_lt_of_le q0 h4
  clear F qT q0 h4 X4
  go_upto_region 4 with fail
  obtain ⟨q1, q0, qT⟩ := RR.out.r.lts
  refine wp_region_told (by kernel_rfl) (by kernel_rfl) (by kernel_rfl) [(w.heap.size, (P9 px py pn)), (g2_4, #[B u, .int .u64 0, .int .u64 0, .int .u64 0])]
    [sV (B i),
     sV (B k),
     sV (B u),
     sV (B i),
     sV (.bool true)]
    (by kernel_rfl) RR.out.b (RowsAt.cons (RR.out.at 1 rfl) (RowsAt.cons (RR.out.at 0 rfl) RowsAt.nil)) (StOk.of [] rfl StM.nil)
    (Obs.val (fun a' w' E => ob_move (.tmp 0) rfl (E.old 0 (by kernel_rfl)))
    (Obs.val (fun a' w' E => ob_move (.tmp 1) rfl (E.old 1 (by kernel_rfl)))
    (Obs.val (fun a' w' E => ob_binOp .add 22 (.tmp 16) (.tmp 17) 22 rfl (E.new (v := (B i)) 16 0 (by kernel_rfl) rfl) (E.new (v := (B k)) 17 1 (by kernel_rfl) rfl) (by simp [go_sem, hu]))
    (Obs.val (fun a' w' E => ob_move (.tmp 0) rfl (E.old 0 (by kernel_rfl)))
    (Obs.val (fun a' w' E => ob_binOp .lss 22 (.tmp 18) (.tmp 19) 22 rfl (E.new (v := (B u)) 18 2 (by kernel_rfl) rfl) (E.new (v := (B i)) 19 3 (by kernel_rfl) rfl) (by simp [go_sem, hl]))
    Obs.nil))))) ?_
  intro bs w3 aZ haZ F
  have eZ : aZ = ({ tmps := #[(B i), (B k), (A9 px py pn), undef, undef, (PT w.heap.size), (.bool false), (PT g2_4), (A9 px py pn), (.bool true), (.bool false), undef, (B i), (B k), (B u), (.agg #[B u, .int .u64 0, .int .u64 0, .int .u64 0]), (B i), (B k), (B u), (B i), (.bool true), undef, undef, undef, undef, undef, undef, undef, undef, undef, undef, undef, undef, undef, undef, undef, undef, undef, undef, undef, undef, undef, undef, undef, undef, undef, undef, undef, undef, undef, undef, undef, undef, undef, undef, undef, undef, undef, undef, undef, undef, undef, undef, undef], defers := [] } : Act) := haZ.trans (by kernel_rfl)
  subst eZ
  clear haZ
  replace RR : Hid (RB w w3 [(g2_4, #[B u, .int .u64 0, .int .u64 0, .int .u64 0]), (w.heap.size, (P9 px py pn))]) := ⟨F.bw, (RowsAt.cons (F.row 1 rfl) (RowsAt.cons (F.row 0 rfl) RowsAt.nil))⟩
  clear F qT q0 q1
  go_upto_region 5 with fail
  obtain ⟨q1, q0, qT⟩ := RR.out.r.lts
  refine wp_region_told (by kernel_rfl) (by kernel_rfl) (by kernel_rfl) [(w.heap.size, (P9 px py pn))]
    [sV (PO g2_4 1),
     sK (g2_4) #[B u, .int .u64 0, .int .u64 0, .int .u64 0] #[B u, .int .u64 1, .int .u64 0, .int .u64 0]]
    (by kernel_rfl) RR.out.b (RowsAt.cons (RR.out.at 1 rfl) RowsAt.nil) (StOk.of [(g2_4, #[B u, .int .u64 0, .int .u64 0, .int .u64 0])] rfl (StM.cons (RR.out.at 0 rfl) (by omega) (Apart.cons (by omega) Apart.nil) Apart.nil StM.nil))
    (Obs.val (fun a' w' E => ob_indexAddr 24 (.tmp 7) (.const (.int .i64 1)) rfl (E.old 7 (by kernel_rfl)) (evc a' (.int .i64 1)) (ix24_1 _ _ w'))
    (Obs.stk (fun a' w' E hr => ob_storea 22 (.tmp 21) (.const (.int .u64 1)) rfl (E.new (v := (PO g2_4 1)) 21 0 (by kernel_rfl) rfl) (evc a' (.int .u64 1)) rfl hr (by kernel_rfl) (Nat.le_of_ble_eq_true rfl) (by kernel_rfl) rfl)
    Obs.nil)) ?_
  intro bs w4 aZ haZ F
  have eZ : aZ = ({ tmps := #[(B i), (B k), (A9 px py pn), undef, undef, (PT w.heap.size), (.bool false), (PT g2_4), (A9 px py pn), (.bool true), (.bool false), undef, (B i), (B k), (B u), (.agg #[B u, .int .u64 0, .int .u64 0, .int .u64 0]), (B i), (B k), (B u), (B i), (.bool true), (PO g2_4 1), undef, undef, undef, undef, undef, undef, undef, undef, undef, undef, undef, undef, undef, undef, undef, undef, undef, undef, undef, undef, undef, undef, undef, undef, undef, undef, undef, undef, undef, undef, undef, undef, undef, undef, undef, undef, undef, undef, undef, undef, undef, undef], defers := [] } : Act) := haZ.trans (by kernel_rfl)
  subst eZ
  clear haZ
  replace RR : Hid (RB w w4 [(g2_4, #[B u, .int .u64 1, .int .u64 0, .int .u64 0]), (w.heap.size, (P9 px py pn))]) := ⟨F.bw, (RowsAt.cons (F.sk 1 rfl) (RowsAt.cons (F.row 0 rfl) RowsAt.nil))⟩
  clear F qT q0 q1
  go_upto_region 6 with fail
  obtain ⟨q1, q0, qT⟩ := RR.out.r.lts
  refine wp_region_told (by kernel_rfl) (by kernel_rfl) (by kernel_rfl) [(w.heap.size, (P9 px py pn)), (g2_4, #[B u, .int .u64 1, .int .u64 0, .int .u64 0])]
    [sV (.agg #[B u, .int .u64 1, .int .u64 0, .int .u64 0]),
     sV (A9 px py pn),
     sV (A9 sx sy sn),
     sV (B i),
     sV (.agg #[B i, .int .u64 0, .int .u64 0, .int .u64 0]),
     sV (A9 px py pn),
     sV (A9 ax ay an),
     sV (B k),
     sV (.agg #[B k, .int .u64 0, .int .u64 0, .int .u64 0]),
     sV (A9 px py pn),
     sV (A9 cx cy cn),
     sV (A9 sx sy sn),
     sV (.bool true),
     sV (.bool true),
     sV (B i),
     sV (.agg #[B i, .int .u64 0, .int .u64 0, .int .u64 0]),
     sV (A9 px py pn),
     sV (B k),
     sV (.agg #[B k, .int .u64 0, .int .u64 0, .int .u64 0]),
     sV (A9 px py pn),
     sV (A9 sx sy sn),
     sV (.agg #[B u, .int .u64 1, .int .u64 0, .int .u64 0]),
     sV (A9 px py pn),
     sV (A9 sx sy sn),
     sV (.bool true),
     sV (.bool true),
     sV (.bool true),
     sV (U od),
     sV (A9 px py pn),
     sV (A9 0 0 true),
     sV (.bool true),
     sV (.bool true),
     sV (.bool true),
     sV (.agg #[.int .u64 1, .int .u64 0, .int .u64 0, .int .u64 0]),
     sV (A9 px py pn),
     sV (A9 px py pn),
     sV (A9 px py pn),
     sV (.bool true),
     sV (.bool true),
     sV (.bool true),
     sV (.bool true),
     sV (.bool true),
     sV (.bool true)]
    (by kernel_rfl) RR.out.b (RowsAt.cons (RR.out.at 1 rfl) (RowsAt.cons (RR.out.at 0 rfl) RowsAt.nil)) (StOk.of [] rfl StM.nil)
    (Obs.val (fun a' w' E => ob_loada 24 (.tmp 7) rfl (E.old 7 (by kernel_rfl)) (E.row (g := g2_4) (c := #[B u, .int .u64 1, .int .u64 0, .int .u64 0]) 1 rfl) Try.underlying24 rfl (by kernel_rfl) rfl)
    (Obs.val (fun a' w' E => ob_loada 26 (.tmp 5) rfl (E.old 5 (by kernel_rfl)) (E.row (g := w.heap.size) (c := (P9 px py pn)) 0 rfl) Try.underlying26 rfl (by kernel_rfl) rfl)
    (Obs.val (fun a' w' E => ob_fcall 23 _ _ rfl (am2 (E.new (v := (.agg #[B u, .int .u64 1, .int .u64 0, .int .u64 0])) 22 0 (by kernel_rfl) rfl) (E.new (v := (A9 px py pn)) 23 1 (by kernel_rfl) rfl)) (fc23 _ _) (hMs.out w'))
    (Obs.val (fun a' w' E => ob_move (.tmp 0) rfl (E.old 0 (by kernel_rfl)))
    (Obs.val (fun a' w' E => ob_build 24 _ rfl (pm1 (E.new (v := (B i)) 25 3 (by kernel_rfl) rfl)) (bd24_0i _ w'))
    (Obs.val (fun a' w' E => ob_loada 26 (.tmp 5) rfl (E.old 5 (by kernel_rfl)) (E.row (g := w.heap.size) (c := (P9 px py pn)) 0 rfl) Try.underlying26 rfl (by kernel_rfl) rfl)
    (Obs.val (fun a' w' E => ob_fcall 23 _ _ rfl (am2 (E.new (v := (.agg #[B i, .int .u64 0, .int .u64 0, .int .u64 0])) 26 4 (by kernel_rfl) rfl) (E.new (v := (A9 px py pn)) 27 5 (by kernel_rfl) rfl)) (fc23 _ _) (hMi.out w'))
    (Obs.val (fun a' w' E => ob_move (.tmp 1) rfl (E.old 1 (by kernel_rfl)))
    (Obs.val (fun a' w' E => ob_build 24 _ rfl (pm1 (E.new (v := (B k)) 29 7 (by kernel_rfl) rfl)) (bd24_0i _ w'))
    (Obs.val (fun a' w' E => ob_loada 26 (.tmp 5) rfl (E.old 5 (by kernel_rfl)) (E.row (g := w.heap.size) (c := (P9 px py pn)) 0 rfl) Try.underlying26 rfl (by kernel_rfl) rfl)
    (Obs.val (fun a' w' E => ob_fcall 23 _ _ rfl (am2 (E.new (v := (.agg #[B k, .int .u64 0, .int .u64 0, .int .u64 0])) 30 8 (by kernel_rfl) rfl) (E.new (v := (A9 px py pn)) 31 9 (by kernel_rfl) rfl)) (fc23 _ _) (hMk.out w'))
    (Obs.val (fun a' w' E => ob_fcall 21 _ _ rfl (am2 (E.new (v := (A9 ax ay an)) 28 6 (by kernel_rfl) rfl) (E.new (v := (A9 cx cy cn)) 32 10 (by kernel_rfl) rfl)) (fc21 _ _) (hA.out w'))
    (Obs.val (fun a' w' E => ob_binOp .eql 26 (.tmp 24) (.tmp 33) 26 rfl (E.new (v := (A9 sx sy sn)) 24 2 (by kernel_rfl) rfl) (E.new (v := (A9 sx sy sn)) 33 11 (by kernel_rfl) rfl) (by simp [go_sem, hE0]))
    (Obs.val (fun a' w' E => ob_move (.tmp 34) rfl (E.new (v := (.bool true)) 34 12 (by kernel_rfl) rfl))
    (Obs.gval rfl rfl (fun a' w' E => E.new 35 13 (by kernel_rfl) rfl) (fun a' w' E => ob_move (.tmp 0) rfl (E.old 0 (by kernel_rfl)))
    (Obs.gval rfl rfl (fun a' w' E => E.new 35 13 (by kernel_rfl) rfl) (fun a' w' E => ob_build 24 _ rfl (pm1 (E.new (v := (B i)) 36 14 (by kernel_rfl) rfl)) (bd24_0i _ w'))
    (Obs.gval rfl rfl (fun a' w' E => E.new 35 13 (by kernel_rfl) rfl) (fun a' w' E => ob_loada 26 (.tmp 5) rfl (E.old 5 (by kernel_rfl)) (E.row (g := w.heap.size) (c := (P9 px py pn)) 0 rfl) Try.underlying26 rfl (by kernel_rfl) rfl)
    (Obs.gval rfl rfl (fun a' w' E => E.new 35 13 (by kernel_rfl) rfl) (fun a' w' E => ob_move (.tmp 1) rfl (E.old 1 (by kernel_rfl)))
    (Obs.gval rfl rfl (fun a' w' E => E.new 35 13 (by kernel_rfl) rfl) (fun a' w' E => ob_build 24 _ rfl (pm1 (E.new (v := (B k)) 39 17 (by kernel_rfl) rfl)) (bd24_0i _ w'))
    (Obs.gval rfl rfl (fun a' w' E => E.new 35 13 (by kernel_rfl) rfl) (fun a' w' E => ob_loada 26 (.tmp 5) rfl (E.old 5 (by kernel_rfl)) (E.row (g := w.heap.size) (c := (P9 px py pn)) 0 rfl) Try.underlying26 rfl (by kernel_rfl) rfl)
    (Obs.gval rfl rfl (fun a' w' E => E.new 35 13 (by kernel_rfl) rfl) (fun a' w' E => ob_fcall 25 _ _ rfl (am4 (E.new (v := (.agg #[B i, .int .u64 0, .int .u64 0, .int .u64 0])) 37 15 (by kernel_rfl) rfl) (E.new (v := (A9 px py pn)) 38 16 (by kernel_rfl) rfl) (E.new (v := (.agg #[B k, .int .u64 0, .int .u64 0, .int .u64 0])) 40 18 (by kernel_rfl) rfl) (E.new (v := (A9 px py pn)) 41 19 (by kernel_rfl) rfl)) (fc25 _ _) (hS.out w'))
    (Obs.gval rfl rfl (fun a' w' E => E.new 35 13 (by kernel_rfl) rfl) (fun a' w' E => ob_loada 24 (.tmp 7) rfl (E.old 7 (by kernel_rfl)) (E.row (g := g2_4) (c := #[B u, .int .u64 1, .int .u64 0, .int .u64 0]) 1 rfl) Try.underlying24 rfl (by kernel_rfl) rfl)
    (Obs.gval rfl rfl (fun a' w' E => E.new 35 13 (by kernel_rfl) rfl) (fun a' w' E => ob_loada 26 (.tmp 5) rfl (E.old 5 (by kernel_rfl)) (E.row (g := w.heap.size) (c := (P9 px py pn)) 0 rfl) Try.underlying26 rfl (by kernel_rfl) rfl)
    (Obs.gval rfl rfl (fun a' w' E => E.new 35 13 (by kernel_rfl) rfl) (fun a' w' E => ob_fcall 23 _ _ rfl (am2 (E.new (v := (.agg #[B u, .int .u64 1, .int .u64 0, .int .u64 0])) 43 21 (by kernel_rfl) rfl) (E.new (v := (A9 px py pn)) 44 22 (by kernel_rfl) rfl)) (fc23 _ _) (hMs.out w'))
    (Obs.gval rfl rfl (fun a' w' E => E.new 35 13 (by kernel_rfl) rfl) (fun a' w' E => ob_binOp .eql 26 (.tmp 42) (.tmp 45) 26 rfl (E.new (v := (A9 sx sy sn)) 42 20 (by kernel_rfl) rfl) (E.new (v := (A9 sx sy sn)) 45 23 (by kernel_rfl) rfl) (by simp [go_sem, hE0]))
    (Obs.val (fun a' w' E => ob_pick (.tmp 35) (.tmp 46) (.const (.bool false)) rfl (E.new (v := (.bool true)) 35 13 (by kernel_rfl) rfl) (E.new (v := (.bool true)) 46 24 (by kernel_rfl) rfl))
    (Obs.val (fun a' w' E => ob_move (.tmp 47) rfl (E.new (v := (.bool true)) 47 25 (by kernel_rfl) rfl))
    (Obs.gval rfl rfl (fun a' w' E => E.new 48 26 (by kernel_rfl) rfl) (fun a' w' E => ob_fcall 14 _ _ rfl (am0) (fc14 _ _) (hO.out w'))
    (Obs.gval rfl rfl (fun a' w' E => E.new 48 26 (by kernel_rfl) rfl) (fun a' w' E => ob_loada 26 (.tmp 5) rfl (E.old 5 (by kernel_rfl)) (E.row (g := w.heap.size) (c := (P9 px py pn)) 0 rfl) Try.underlying26 rfl (by kernel_rfl) rfl)
    (Obs.gval rfl rfl (fun a' w' E => E.new 48 26 (by kernel_rfl) rfl) (fun a' w' E => ob_fcall 23 _ _ rfl (am2 (E.new (v := (U od)) 49 27 (by kernel_rfl) rfl) (E.new (v := (A9 px py pn)) 50 28 (by kernel_rfl) rfl)) (fc23 _ _) (hMo.out w'))
    (Obs.gval rfl rfl (fun a' w' E => E.new 48 26 (by kernel_rfl) rfl) (fun a' w' E => ob_field 26 (.tmp 51) 2 rfl (E.new (v := (A9 0 0 true)) 51 29 (by kernel_rfl) rfl) (fd26_2 _ _ _ w'))
    (Obs.val (fun a' w' E => ob_pick (.tmp 48) (.tmp 52) (.const (.bool false)) rfl (E.new (v := (.bool true)) 48 26 (by kernel_rfl) rfl) (E.new (v := (.bool true)) 52 30 (by kernel_rfl) rfl))
    (Obs.val (fun a' w' E => ob_move (.tmp 53) rfl (E.new (v := (.bool true)) 53 31 (by kernel_rfl) rfl))
    (Obs.gval rfl rfl (fun a' w' E => E.new 54 32 (by kernel_rfl) rfl) (fun a' w' E => ob_build 24 _ rfl (pm1 (evc a' (.int .u64 1))) (bd24_0i _ w'))
    (Obs.gval rfl rfl (fun a' w' E => E.new 54 32 (by kernel_rfl) rfl) (fun a' w' E => ob_loada 26 (.tmp 5) rfl (E.old 5 (by kernel_rfl)) (E.row (g := w.heap.size) (c := (P9 px py pn)) 0 rfl) Try.underlying26 rfl (by kernel_rfl) rfl)
    (Obs.gval rfl rfl (fun a' w' E => E.new 54 32 (by kernel_rfl) rfl) (fun a' w' E => ob_fcall 23 _ _ rfl (am2 (E.new (v := (.agg #[.int .u64 1, .int .u64 0, .int .u64 0, .int .u64 0])) 55 33 (by kernel_rfl) rfl) (E.new (v := (A9 px py pn)) 56 34 (by kernel_rfl) rfl)) (fc23 _ _) (hM1.out w'))
    (Obs.gval rfl rfl (fun a' w' E => E.new 54 32 (by kernel_rfl) rfl) (fun a' w' E => ob_loada 26 (.tmp 5) rfl (E.old 5 (by kernel_rfl)) (E.row (g := w.heap.size) (c := (P9 px py pn)) 0 rfl) Try.underlying26 rfl (by kernel_rfl) rfl)
    (Obs.gval rfl rfl (fun a' w' E => E.new 54 32 (by kernel_rfl) rfl) (fun a' w' E => ob_binOp .eql 26 (.tmp 57) (.tmp 58) 26 rfl (E.new (v := (A9 px py pn)) 57 35 (by kernel_rfl) rfl) (E.new (v := (A9 px py pn)) 58 36 (by kernel_rfl) rfl) (by simp [go_sem, hE1]))
    (Obs.val (fun a' w' E => ob_pick (.tmp 54) (.tmp 59) (.const (.bool false)) rfl (E.new (v := (.bool true)) 54 32 (by kernel_rfl) rfl) (E.new (v := (.bool true)) 59 37 (by kernel_rfl) rfl))
    (Obs.val (fun a' w' E => ob_move (.tmp 60) rfl (E.new (v := (.bool true)) 60 38 (by kernel_rfl) rfl))
    (Obs.gval rfl rfl (fun a' w' E => E.new 61 39 (by kernel_rfl) rfl) (fun a' w' E => ob_fcall 18 _ _ rfl (am0) (fc18 _ _) (hW.out w'))
    (Obs.val (fun a' w' E => ob_pick (.tmp 61) (.tmp 62) (.const (.bool false)) rfl (E.new (v := (.bool true)) 61 39 (by kernel_rfl) rfl) (E.new (v := (.bool true)) 62 40 (by kernel_rfl) rfl))
    (Obs.val (fun a' w' E => ob_assign (.tmp 63) rfl (E.new (v := (.bool true)) 63 41 (by kernel_rfl) rfl))
    Obs.nil))))))))))))))))))))))))))))))))))))))))))) ?_
  intro bs w5 aZ haZ F
  have eZ : aZ = ({ tmps := #[(B i), (B k), (A9 px py pn), undef, undef, (PT w.heap.size), (.bool true), (PT g2_4), (A9 px py pn), (.bool true), (.bool false), undef, (B i), (B k), (B u), (.agg #[B u, .int .u64 0, .int .u64 0, .int .u64 0]), (B i), (B k), (B u), (B i), (.bool true), (PO g2_4 1), (.agg #[B u, .int .u64 1, .int .u64 0, .int .u64 0]), (A9 px py pn), (A9 sx sy sn), (B i), (.agg #[B i, .int .u64 0, .int .u64 0, .int .u64 0]), (A9 px py pn), (A9 ax ay an), (B k), (.agg #[B k, .int .u64 0, .int .u64 0, .int .u64 0]), (A9 px py pn), (A9 cx cy cn), (A9 sx sy sn), (.bool true), (.bool true), (B i), (.agg #[B i, .int .u64 0, .int .u64 0, .int .u64 0]), (A9 px py pn), (B k), (.agg #[B k, .int .u64 0, .int .u64 0, .int .u64 0]), (A9 px py pn), (A9 sx sy sn), (.agg #[B u, .int .u64 1, .int .u64 0, .int .u64 0]), (A9 px py pn), (A9 sx sy sn), (.bool true), (.bool true), (.bool true), (U od), (A9 px py pn), (A9 0 0 true), (.bool true), (.bool true), (.bool true), (.agg #[.int .u64 1, .int .u64 0, .int .u64 0, .int .u64 0]), (A9 px py pn), (A9 px py pn), (A9 px py pn), (.bool true), (.bool true), (.bool true), (.bool true), (.bool true)], defers := [] } : Act) := haZ.trans (by kernel_rfl)
  subst eZ
  clear haZ
  replace RR : Hid (RB w w5 [(g2_4, #[B u, .int .u64 1, .int .u64 0, .int .u64 0]), (w.heap.size, (P9 px py pn))]) := ⟨F.bw, (RowsAt.cons (F.row 1 rfl) (RowsAt.cons (F.row 0 rfl) RowsAt.nil))⟩
  clear F qT q0 q1
  go_wp2
  exact bodyPost_ret (v := (.bool true)) (by simp [results, Try.results6, go_sem]) rfl ⟨rfl, RR.out.b⟩
end Go.Proofs.Ythbindnkichimaa
