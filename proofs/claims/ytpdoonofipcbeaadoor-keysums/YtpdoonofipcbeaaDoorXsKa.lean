/- Raw walks of key, over letters. -/
import Derived.Test.YtpdoonofipcbeaaDoorXsMC
import Derived.Test.YtpdoonofipcbeaaDoorXsQc
import Derived.Test.YtpdoonofipcbeaaDoorXsEq
import Derived.Test.YtpdoonofipcbeaaDoorXsMJ
import Derived.WalkSmall
import Derived.Deep.Cut
import Derived.Deep.Light
namespace Go.Proofs.YtpdoonofipcbeaaDoor
open Go.RowKit Go.Sort
set_option linter.unusedVariables false
set_option maxRecDepth 100000 in
set_option maxHeartbeats 4000000 in
theorem above1_raw (k b bd : Nat) (z : Int) (hC : Does 54 #[(U k), (U bd)] (.int .i64 z)) 
    (w : World) (hB : HasRow w b (Ar bd)) : Calls Tryd.prog 53 #[(U k), (PT b)] w fun e w' => e = .returned (.bool (decide (0 < z))) ∧ Below w.heap.size w w' := by
  go_enter Tryd.func53, Tryd.ntmps53
  have RR : Hid (RB w w [(b, Ar bd)]) := ⟨Below.refl _ _, RowsAt.cons hB RowsAt.nil⟩
  clear hB
  go_upto_region 1 with fail
  refine name_world _ ?_
  intro wF hF0
  replace RR : Hid (RB w wF [(w.heap.size, (Ar k)), (b, (Ar bd))]) := by rw [hF0]; exact (rbN RR (by simp))
  clear hF0
  obtain ⟨q1, q0, qT⟩ := RR.out.r.lts
  refine wp_region_told (by kernel_rfl) (by kernel_rfl) (by kernel_rfl) [(b, (Ar bd)), (w.heap.size, (Ar k))]
    [sV (U k),
     sV (U bd),
     sV (.int .i64 z),
     sV (.bool (decide (0 < z))),
     sV (.bool (decide (0 < z)))]
    (by kernel_rfl) RR.out.b (RowsAt.cons (RR.out.at 1 rfl) (RowsAt.cons (RR.out.at 0 rfl) RowsAt.nil)) (StOk.of [] rfl StM.nil)
    (Obs.val (fun a' w' E => ob_loada 24 (.tmp 2) rfl (E.old 2 (by kernel_rfl)) (E.row (g := w.heap.size) (c := (Ar k)) 1 rfl) Tryd.underlying24 rfl (by kernel_rfl) rfl)
    (Obs.val (fun a' w' E => ob_loada 24 (.tmp 1) rfl (E.old 1 (by kernel_rfl)) (E.row (g := b) (c := (Ar bd)) 0 rfl) Tryd.underlying24 rfl (by kernel_rfl) rfl)
    (Obs.val (fun a' w' E => ob_fcall 54 _ _ rfl (am2 (E.new (v := (U k)) 4 0 (by kernel_rfl) rfl) (E.new (v := (U bd)) 5 1 (by kernel_rfl) rfl)) (fc54 _ _) (hC.out w'))
    (Obs.val (fun a' w' E => ob_binOp .gtr 3 (.tmp 6) (.const (.int .i64 0)) 3 rfl (E.new (v := (.int .i64 z)) 6 2 (by kernel_rfl) rfl) (evc a' (.int .i64 0)) (by simp [go_sem]))
    (Obs.val (fun a' w' E => ob_assign (.tmp 7) rfl (E.new (v := (.bool (decide (0 < z)))) 7 3 (by kernel_rfl) rfl))
    Obs.nil))))) ?_
  intro bs w1 aZ haZ F
  have eZ : aZ = ({ tmps := #[(U k), (PT b), (PT w.heap.size), (.bool (decide (0 < z))), (U k), (U bd), (.int .i64 z), (.bool (decide (0 < z)))], defers := [] } : Act) := haZ.trans (by kernel_rfl)
  subst eZ
  clear haZ
  replace RR : Hid (RB w w1 [(w.heap.size, (Ar k)), (b, (Ar bd))]) := ⟨F.bw, (RowsAt.cons (F.row 1 rfl) (RowsAt.cons (F.row 0 rfl) RowsAt.nil))⟩
  clear F qT q0 q1
  clear wF
  go_wp2
  exact bodyPost_ret (v := (.bool (decide (0 < z)))) (by simp [results, Tryd.results53, go_sem]) rfl ⟨rfl, RR.out.b⟩
set_option maxRecDepth 100000 in
set_option maxHeartbeats 4000000 in
theorem below1_raw (k b bd : Nat) (z : Int) (hC : Does 54 #[(U k), (U bd)] (.int .i64 z)) 
    (w : World) (hB : HasRow w b (Ar bd)) : Calls Tryd.prog 55 #[(U k), (PT b)] w fun e w' => e = .returned (.bool (decide (z < 0))) ∧ Below w.heap.size w w' := by
  go_enter Tryd.func55, Tryd.ntmps55
  have RR : Hid (RB w w [(b, Ar bd)]) := ⟨Below.refl _ _, RowsAt.cons hB RowsAt.nil⟩
  clear hB
  go_upto_region 1 with fail
  refine name_world _ ?_
  intro wF hF0
  replace RR : Hid (RB w wF [(w.heap.size, (Ar k)), (b, (Ar bd))]) := by rw [hF0]; exact (rbN RR (by simp))
  clear hF0
  obtain ⟨q1, q0, qT⟩ := RR.out.r.lts
  refine wp_region_told (by kernel_rfl) (by kernel_rfl) (by kernel_rfl) [(b, (Ar bd)), (w.heap.size, (Ar k))]
    [sV (U k),
     sV (U bd),
     sV (.int .i64 z),
     sV (.bool (decide (z < 0))),
     sV (.bool (decide (z < 0)))]
    (by kernel_rfl) RR.out.b (RowsAt.cons (RR.out.at 1 rfl) (RowsAt.cons (RR.out.at 0 rfl) RowsAt.nil)) (StOk.of [] rfl StM.nil)
    (Obs.val (fun a' w' E => ob_loada 24 (.tmp 2) rfl (E.old 2 (by kernel_rfl)) (E.row (g := w.heap.size) (c := (Ar k)) 1 rfl) Tryd.underlying24 rfl (by kernel_rfl) rfl)
    (Obs.val (fun a' w' E => ob_loada 24 (.tmp 1) rfl (E.old 1 (by kernel_rfl)) (E.row (g := b) (c := (Ar bd)) 0 rfl) Tryd.underlying24 rfl (by kernel_rfl) rfl)
    (Obs.val (fun a' w' E => ob_fcall 54 _ _ rfl (am2 (E.new (v := (U k)) 4 0 (by kernel_rfl) rfl) (E.new (v := (U bd)) 5 1 (by kernel_rfl) rfl)) (fc54 _ _) (hC.out w'))
    (Obs.val (fun a' w' E => ob_binOp .lss 3 (.tmp 6) (.const (.int .i64 0)) 3 rfl (E.new (v := (.int .i64 z)) 6 2 (by kernel_rfl) rfl) (evc a' (.int .i64 0)) (by simp [go_sem]))
    (Obs.val (fun a' w' E => ob_assign (.tmp 7) rfl (E.new (v := (.bool (decide (z < 0)))) 7 3 (by kernel_rfl) rfl))
    Obs.nil))))) ?_
  intro bs w1 aZ haZ F
  have eZ : aZ = ({ tmps := #[(U k), (PT b), (PT w.heap.size), (.bool (decide (z < 0))), (U k), (U bd), (.int .i64 z), (.bool (decide (z < 0)))], defers := [] } : Act) := haZ.trans (by kernel_rfl)
  subst eZ
  clear haZ
  replace RR : Hid (RB w w1 [(w.heap.size, (Ar k)), (b, (Ar bd))]) := ⟨F.bw, (RowsAt.cons (F.row 1 rfl) (RowsAt.cons (F.row 0 rfl) RowsAt.nil))⟩
  clear F qT q0 q1
  clear wF
  go_wp2
  exact bodyPost_ret (v := (.bool (decide (z < 0)))) (by simp [results, Tryd.results55, go_sem]) rfl ⟨rfl, RR.out.b⟩
set_option maxRecDepth 100000 in
set_option maxHeartbeats 4000000 in
theorem small_raw (n u o r : Nat) (ov : Bool) (hn : Does 31 #[(B n)] (U u)) (h1 : Does 31 #[(.int .u64 1)] (U o)) (hA : Does 34 #[(U u), (U o)] (.tuple #[(U r), (.bool ov)])) 
    (w : World) : Calls Tryd.prog 13 #[(B n)] w fun e w' => e = .returned (U r) ∧ Below w.heap.size w w' := by
  go_enter Tryd.func13, Tryd.ntmps13
  go_upto_region 1 with fail
  refine name_world _ ?_
  intro wF hF0
  have RR : Hid (RB w wF [(w.heap.size, Zr)]) := by rw [hF0]; exact (rbN (rb0 w) (by simp))
  clear hF0
  obtain ⟨q0, qT⟩ := RR.out.r.lts
  refine wp_region_told (by kernel_rfl) (by kernel_rfl) (by kernel_rfl) [(w.heap.size, Zr)]
    [sV (B n),
     sV (U u),
     sV (U o),
     sV (.tuple #[(U r), (.bool ov)]),
     sV (.tuple #[(U r), (.bool ov)]),
     sV (U r),
     sV (.bool ov),
     sA (fun g => .pointer (some ⟨g, 0, none⟩)) 8 Zr (Ar r),
     sS 7,
     sV (.bool ov)]
    (by kernel_rfl) RR.out.b (RowsAt.cons (RR.out.at 0 rfl) RowsAt.nil) (StOk.of [] rfl StM.nil)
    (Obs.val (fun a' w' E => ob_move (.tmp 0) rfl (E.old 0 (by kernel_rfl)))
    (Obs.val (fun a' w' E => ob_fcall 31 _ _ rfl (am1 (E.new (v := (B n)) 6 0 (by kernel_rfl) rfl)) (fc31 _ _) (hn.out w'))
    (Obs.val (fun a' w' E => ob_fcall 31 _ _ rfl (am1 (evc a' (.int .u64 1))) (fc31 _ _) (h1.out w'))
    (Obs.val (fun a' w' E => ob_fcall 34 _ _ rfl (am2 (E.new (v := (U u)) 7 1 (by kernel_rfl) rfl) (E.new (v := (U o)) 8 2 (by kernel_rfl) rfl)) (fc34 _ _) (hA.out w'))
    (Obs.val (fun a' w' E => ob_move (.tmp 9) rfl (E.new (v := (.tuple #[(U r), (.bool ov)])) 9 3 (by kernel_rfl) rfl))
    (Obs.val (fun a' w' E => ob_extract (.tmp 5) 0 rfl (E.new (v := (.tuple #[(U r), (.bool ov)])) 5 4 (by kernel_rfl) rfl) rfl)
    (Obs.val (fun a' w' E => ob_extract (.tmp 5) 1 rfl (E.new (v := (.tuple #[(U r), (.bool ov)])) 5 4 (by kernel_rfl) rfl) rfl)
    (Obs.alloc (fun a' w' E => ob_alloc (t := 24) (by simp [opAt, execOp, go_sem]))
    (Obs.sta rfl (fun a' w' g E ha hr => ob_storea 24 (.tmp 3) (.tmp 10) rfl (ha 3 (by kernel_rfl)) (E.new (v := (U r)) 10 5 (by kernel_rfl) rfl) rfl hr (by kernel_rfl) (Nat.le_of_ble_eq_true rfl) (by kernel_rfl) rfl)
    (Obs.val (fun a' w' E => ob_assign (.tmp 11) rfl (E.new (v := (.bool ov)) 11 6 (by kernel_rfl) rfl))
    Obs.nil)))))))))) ?_
  intro bs w1 aZ haZ F
  have eZ : aZ = ({ tmps := #[(B n), undef, (PT w.heap.size), (PT ((bs 7))), (.bool ov), (.tuple #[(U r), (.bool ov)]), (B n), (U u), (U o), (.tuple #[(U r), (.bool ov)]), (U r), (.bool ov), undef], defers := [] } : Act) := haZ.trans (by kernel_rfl)
  subst eZ
  clear haZ
  obtain ⟨h7, X7⟩ := F.al 7 rfl rfl
  replace RR : Hid (RB w w1 [((bs 7), (Ar r)), (w.heap.size, Zr)]) := ⟨F.bw, (RowsAt.cons X7 (RowsAt.cons (F.row 0 rfl) RowsAt.nil))⟩
  generalize bs 7 = g1_7 at *
  have k1_7_0 := Nat.lt_of_lt_of_le q0 h7
  clear F qT q0 h7 X7
  clear wF
  go_upto_region 2 with fail
  obtain ⟨q1, q0, qT⟩ := RR.out.r.lts
  refine wp_region_told (by kernel_rfl) (by kernel_rfl) (by kernel_rfl) [(g1_7, (Ar r))]
    [sV (U r),
     sK (w.heap.size) Zr (Ar r)]
    (by kernel_rfl) RR.out.b (RowsAt.cons (RR.out.at 0 rfl) RowsAt.nil) (StOk.of [(w.heap.size, Zr)] rfl (StM.cons (RR.out.at 1 rfl) (by omega) (Apart.cons (by omega) Apart.nil) Apart.nil StM.nil))
    (Obs.val (fun a' w' E => ob_loada 24 (.tmp 3) rfl (E.old 3 (by kernel_rfl)) (E.row (g := g1_7) (c := (Ar r)) 0 rfl) Tryd.underlying24 rfl (by kernel_rfl) rfl)
    (Obs.stk (fun a' w' E hr => ob_storea 24 (.tmp 2) (.tmp 12) rfl (E.old 2 (by kernel_rfl)) (E.new (v := (U r)) 12 0 (by kernel_rfl) rfl) rfl hr (by kernel_rfl) (Nat.le_of_ble_eq_true rfl) (by kernel_rfl) rfl)
    Obs.nil)) ?_
  intro bs w2 aZ haZ F
  have eZ : aZ = ({ tmps := #[(B n), undef, (PT w.heap.size), (PT g1_7), (.bool ov), (.tuple #[(U r), (.bool ov)]), (B n), (U u), (U o), (.tuple #[(U r), (.bool ov)]), (U r), (.bool ov), (U r)], defers := [] } : Act) := haZ.trans (by kernel_rfl)
  subst eZ
  clear haZ
  replace RR : Hid (RB w w2 [(g1_7, (Ar r)), (w.heap.size, (Ar r))]) := ⟨F.bw, (RowsAt.cons (F.row 0 rfl) (RowsAt.cons (F.sk 1 rfl) RowsAt.nil))⟩
  clear F qT q0 q1
  go_wp2
  exact bodyPost_ret (v := (U r)) (resA (p := 2) (ty := 24) rfl (g := w.heap.size) rfl (RR.out.at 1 rfl) Tryd.underlying24 rfl (by kernel_rfl)) rfl ⟨rfl, RR.out.b⟩
set_option maxRecDepth 100000 in
set_option maxHeartbeats 4000000 in
theorem public_no (k : Nat) (hF : Does 11 #[(U k)] (.bool false)) 
    (w : World) : Calls Tryd.prog 7 #[(U k)] w fun e w' => e = .returned (.tuple #[(A9 0 0 false), (.int .i64 5)]) ∧ Below w.heap.size w w' := by
  go_enter Tryd.func7, Tryd.ntmps7
  go_upto_region 1 with fail
  refine name_world _ ?_
  intro wF hF0
  have RR : Hid (RB w wF [(w.heap.size + 1, Z9), (w.heap.size, (Ar k))]) := by rw [hF0]; exact (rbN (rbN (rb0 w) (by simp)) (by simp))
  clear hF0
  obtain ⟨q1, q0, qT⟩ := RR.out.r.lts
  refine wp_region_told (by kernel_rfl) (by kernel_rfl) (by kernel_rfl) [(w.heap.size, (Ar k)), (w.heap.size + 1, Z9)]
    [sV (U k),
     sV (.bool false),
     sV (.bool true)]
    (by kernel_rfl) RR.out.b (RowsAt.cons (RR.out.at 1 rfl) (RowsAt.cons (RR.out.at 0 rfl) RowsAt.nil)) (StOk.of [] rfl StM.nil)
    (Obs.val (fun a' w' E => ob_loada 24 (.tmp 1) rfl (E.old 1 (by kernel_rfl)) (E.row (g := w.heap.size) (c := (Ar k)) 0 rfl) Tryd.underlying24 rfl (by kernel_rfl) rfl)
    (Obs.val (fun a' w' E => ob_fcall 11 _ _ rfl (am1 (E.new (v := (U k)) 4 0 (by kernel_rfl) rfl)) (fc11 _ _) (hF.out w'))
    (Obs.val (fun a' w' E => ob_unOp .not 4 (.tmp 5) rfl (E.new (v := (.bool false)) 5 1 (by kernel_rfl) rfl) (by simp [go_sem]))
    Obs.nil))) ?_
  intro bs w1 aZ haZ F
  have eZ : aZ = ({ tmps := #[(U k), (PT w.heap.size), (PT (w.heap.size + 1)), (.int .i64 0), (U k), (.bool false), (.bool true), undef, undef, undef, undef], defers := [] } : Act) := haZ.trans (by kernel_rfl)
  subst eZ
  clear haZ
  replace RR : Hid (RB w w1 [(w.heap.size + 1, Z9), (w.heap.size, (Ar k))]) := ⟨F.bw, (RowsAt.cons (F.row 1 rfl) (RowsAt.cons (F.row 0 rfl) RowsAt.nil))⟩
  clear F qT q0 q1
  clear wF
  go_upto_region 2 with fail
  obtain ⟨q1, q0, qT⟩ := RR.out.r.lts
  refine wp_region_told (by kernel_rfl) (by kernel_rfl) (by kernel_rfl) [(w.heap.size, (Ar k))]
    [sV (A9 0 0 false),
     sK (w.heap.size + 1) Z9 (P9 0 0 false),
     sV (.int .i64 5)]
    (by kernel_rfl) RR.out.b (RowsAt.cons (RR.out.at 1 rfl) RowsAt.nil) (StOk.of [(w.heap.size + 1, Z9)] rfl (StM.cons (RR.out.at 0 rfl) (by omega) (Apart.cons (by omega) Apart.nil) Apart.nil StM.nil))
    (Obs.val (fun a' w' E => ob_build 26 _ rfl (pm0) (bd26_ w'))
    (Obs.stk (fun a' w' E hr => ob_storea 26 (.tmp 2) (.tmp 7) rfl (E.old 2 (by kernel_rfl)) (E.new (v := (A9 0 0 false)) 7 0 (by kernel_rfl) rfl) rfl hr (by kernel_rfl) (Nat.le_of_ble_eq_true rfl) (by kernel_rfl) rfl)
    (Obs.val (fun a' w' E => ob_assign (.const (.int .i64 5)) rfl (evc a' (.int .i64 5)))
    Obs.nil))) ?_
  intro bs w2 aZ haZ F
  have eZ : aZ = ({ tmps := #[(U k), (PT w.heap.size), (PT (w.heap.size + 1)), (.int .i64 5), (U k), (.bool false), (.bool true), (A9 0 0 false), undef, undef, undef], defers := [] } : Act) := haZ.trans (by kernel_rfl)
  subst eZ
  clear haZ
  replace RR : Hid (RB w w2 [(w.heap.size + 1, (P9 0 0 false)), (w.heap.size, (Ar k))]) := ⟨F.bw, (RowsAt.cons (F.sk 1 rfl) (RowsAt.cons (F.row 0 rfl) RowsAt.nil))⟩
  clear F qT q0 q1
  go_wp2
  exact bodyPost_ret (v := (.tuple #[(A9 0 0 false), (.int .i64 5)])) (resAT (p := 2) (q := 3) (ty := 26) rfl (g := w.heap.size + 1) rfl rfl (RR.out.at 0 rfl) Tryd.underlying26 rfl (by kernel_rfl)) rfl ⟨rfl, RR.out.b⟩
set_option maxRecDepth 100000 in
set_option maxHeartbeats 4000000 in
theorem public_yes (k gx gy px py : Nat) (gn pn : Bool) (hF : Does 11 #[(U k)] (.bool true)) (hB : Does 26 #[] (A9 gx gy gn)) (hM : Does 25 #[(U k), (A9 gx gy gn)] (A9 px py pn)) 
    (w : World) : Calls Tryd.prog 7 #[(U k)] w fun e w' => e = .returned (.tuple #[(A9 px py pn), (.int .i64 0)]) ∧ Below w.heap.size w w' := by
  go_enter Tryd.func7, Tryd.ntmps7
  go_upto_region 1 with fail
  refine name_world _ ?_
  intro wF hF0
  have RR : Hid (RB w wF [(w.heap.size + 1, Z9), (w.heap.size, (Ar k))]) := by rw [hF0]; exact (rbN (rbN (rb0 w) (by simp)) (by simp))
  clear hF0
  obtain ⟨q1, q0, qT⟩ := RR.out.r.lts
  refine wp_region_told (by kernel_rfl) (by kernel_rfl) (by kernel_rfl) [(w.heap.size, (Ar k)), (w.heap.size + 1, Z9)]
    [sV (U k),
     sV (.bool true),
     sV (.bool false)]
    (by kernel_rfl) RR.out.b (RowsAt.cons (RR.out.at 1 rfl) (RowsAt.cons (RR.out.at 0 rfl) RowsAt.nil)) (StOk.of [] rfl StM.nil)
    (Obs.val (fun a' w' E => ob_loada 24 (.tmp 1) rfl (E.old 1 (by kernel_rfl)) (E.row (g := w.heap.size) (c := (Ar k)) 0 rfl) Tryd.underlying24 rfl (by kernel_rfl) rfl)
    (Obs.val (fun a' w' E => ob_fcall 11 _ _ rfl (am1 (E.new (v := (U k)) 4 0 (by kernel_rfl) rfl)) (fc11 _ _) (hF.out w'))
    (Obs.val (fun a' w' E => ob_unOp .not 4 (.tmp 5) rfl (E.new (v := (.bool true)) 5 1 (by kernel_rfl) rfl) (by simp [go_sem]))
    Obs.nil))) ?_
  intro bs w1 aZ haZ F
  have eZ : aZ = ({ tmps := #[(U k), (PT w.heap.size), (PT (w.heap.size + 1)), (.int .i64 0), (U k), (.bool true), (.bool false), undef, undef, undef, undef], defers := [] } : Act) := haZ.trans (by kernel_rfl)
  subst eZ
  clear haZ
  replace RR : Hid (RB w w1 [(w.heap.size + 1, Z9), (w.heap.size, (Ar k))]) := ⟨F.bw, (RowsAt.cons (F.row 1 rfl) (RowsAt.cons (F.row 0 rfl) RowsAt.nil))⟩
  clear F qT q0 q1
  clear wF
  go_upto_region 3 with fail
  obtain ⟨q1, q0, qT⟩ := RR.out.r.lts
  refine wp_region_told (by kernel_rfl) (by kernel_rfl) (by kernel_rfl) [(w.heap.size, (Ar k))]
    [sV (U k),
     sV (A9 gx gy gn),
     sV (A9 px py pn),
     sK (w.heap.size + 1) Z9 (P9 px py pn),
     sV (.int .i64 0)]
    (by kernel_rfl) RR.out.b (RowsAt.cons (RR.out.at 1 rfl) RowsAt.nil) (StOk.of [(w.heap.size + 1, Z9)] rfl (StM.cons (RR.out.at 0 rfl) (by omega) (Apart.cons (by omega) Apart.nil) Apart.nil StM.nil))
    (Obs.val (fun a' w' E => ob_loada 24 (.tmp 1) rfl (E.old 1 (by kernel_rfl)) (E.row (g := w.heap.size) (c := (Ar k)) 0 rfl) Tryd.underlying24 rfl (by kernel_rfl) rfl)
    (Obs.val (fun a' w' E => ob_fcall 26 _ _ rfl (am0) (fc26 _ _) (hB.out w'))
    (Obs.val (fun a' w' E => ob_fcall 25 _ _ rfl (am2 (E.new (v := (U k)) 8 0 (by kernel_rfl) rfl) (E.new (v := (A9 gx gy gn)) 9 1 (by kernel_rfl) rfl)) (fc25 _ _) (hM.out w'))
    (Obs.stk (fun a' w' E hr => ob_storea 26 (.tmp 2) (.tmp 10) rfl (E.old 2 (by kernel_rfl)) (E.new (v := (A9 px py pn)) 10 2 (by kernel_rfl) rfl) rfl hr (by kernel_rfl) (Nat.le_of_ble_eq_true rfl) (by kernel_rfl) rfl)
    (Obs.val (fun a' w' E => ob_assign (.const (.int .i64 0)) rfl (evc a' (.int .i64 0)))
    Obs.nil))))) ?_
  intro bs w2 aZ haZ F
  have eZ : aZ = ({ tmps := #[(U k), (PT w.heap.size), (PT (w.heap.size + 1)), (.int .i64 0), (U k), (.bool true), (.bool false), undef, (U k), (A9 gx gy gn), (A9 px py pn)], defers := [] } : Act) := haZ.trans (by kernel_rfl)
  subst eZ
  clear haZ
  replace RR : Hid (RB w w2 [(w.heap.size + 1, (P9 px py pn)), (w.heap.size, (Ar k))]) := ⟨F.bw, (RowsAt.cons (F.sk 3 rfl) (RowsAt.cons (F.row 0 rfl) RowsAt.nil))⟩
  clear F qT q0 q1
  go_wp2
  exact bodyPost_ret (v := (.tuple #[(A9 px py pn), (.int .i64 0)])) (resAT (p := 2) (q := 3) (ty := 26) rfl (g := w.heap.size + 1) rfl rfl (RR.out.at 0 rfl) Tryd.underlying26 rfl (by kernel_rfl)) rfl ⟨rfl, RR.out.b⟩
set_option maxRecDepth 100000 in
set_option maxHeartbeats 4000000 in
theorem addr_none (x y : Nat)  
    (w : World) (ht : Tabs w ki) : Calls Tryd.prog 16 #[(A9 x y true)] w fun e w' => e = .returned (.string { data := #[] }) ∧ Below w.heap.size w w' := by
  have HT : Hid (Tabs w ki) := ht
  clear ht
  go_enter Tryd.func16, Tryd.ntmps16
  go_upto_region 1 with fail
  refine name_world _ ?_
  intro wF hF0
  have RR : Hid (RB w wF [(w.heap.size, (P9 x y true))]) := by rw [hF0]; exact (rbN (rb0 w) (by simp))
  clear hF0
  obtain ⟨q0, qT⟩ := RR.out.r.lts
  refine wp_region_told (by kernel_rfl) (by kernel_rfl) (by kernel_rfl) [(w.heap.size, (P9 x y true))]
    [sV (PO w.heap.size 8),
     sV (.bool true)]
    (by kernel_rfl) RR.out.b (RowsAt.cons (RR.out.at 0 rfl) RowsAt.nil) (StOk.of [] rfl StM.nil)
    (Obs.val (fun a' w' E => ob_fieldAddr 26 (.tmp 1) 2 rfl (E.old 1 (by kernel_rfl)) (fa26_2 _ _ w'))
    (Obs.val (fun a' w' E => ob_load1 4 (.tmp 4) rfl (E.new (v := (PO w.heap.size 8)) 4 0 (by kernel_rfl) rfl) (E.row (g := w.heap.size) (c := (P9 x y true)) 0 rfl) Tryd.underlying4 rfl rfl)
    Obs.nil)) ?_
  intro bs w1 aZ haZ F
  have eZ : aZ = ({ tmps := #[(A9 x y true), (PT w.heap.size), (.string { data := #[] }), undef, (PO w.heap.size 8), (.bool true), undef, undef, undef, undef, undef, undef, undef, undef, undef, undef, undef, undef, undef], defers := [] } : Act) := haZ.trans (by kernel_rfl)
  subst eZ
  clear haZ
  replace RR : Hid (RB w w1 [(w.heap.size, (P9 x y true))]) := ⟨F.bw, (RowsAt.cons (F.row 0 rfl) RowsAt.nil)⟩
  clear F qT q0
  clear wF
  go_upto_region 2 with fail
  obtain ⟨q0, qT⟩ := RR.out.r.lts
  refine wp_region_told (by kernel_rfl) (by kernel_rfl) (by kernel_rfl) [(w.heap.size, (P9 x y true))]
    [sV (.string { data := #[] })]
    (by kernel_rfl) RR.out.b (RowsAt.cons (RR.out.at 0 rfl) RowsAt.nil) (StOk.of [] rfl StM.nil)
    (Obs.val (fun a' w' E => ob_assign (.const (.string { data := #[] })) rfl (evc a' (.string { data := #[] })))
    Obs.nil) ?_
  intro bs w2 aZ haZ F
  have eZ : aZ = ({ tmps := #[(A9 x y true), (PT w.heap.size), (.string { data := #[] }), undef, (PO w.heap.size 8), (.bool true), undef, undef, undef, undef, undef, undef, undef, undef, undef, undef, undef, undef, undef], defers := [] } : Act) := haZ.trans (by kernel_rfl)
  subst eZ
  clear haZ
  replace RR : Hid (RB w w2 [(w.heap.size, (P9 x y true))]) := ⟨F.bw, (RowsAt.cons (F.row 0 rfl) RowsAt.nil)⟩
  clear F qT q0
  go_wp2
  exact bodyPost_ret (v := (.string { data := #[] })) (by simp [results, Tryd.results16, go_sem]) rfl ⟨rfl, RR.out.b⟩
set_option maxRecDepth 100000 in
set_option maxHeartbeats 4000000 in
theorem addr_some (x y : Nat) (a b d r : ByteArray) (hab : a.size + b.size ≤ 9223372036854775807) (hw : IntKind.i64.wrap 12 = 12) (hl : (d.size : Int) = 32) (hsl : ∀ w, (Instr.slice 9 (.string d) (some (.int .i64 12)) none none).run Tryd.prog w = .ok (.string r) w) (h1 : Does 39 #[(U x)] (.string a)) (h2 : Does 39 #[(U y)] (.string b)) (hS : DoesT 38 #[(.string ((a ++ b)))] (.string d)) 
    (w : World) (ht : Tabs w ki) : Calls Tryd.prog 16 #[(A9 x y false)] w fun e w' => e = .returned (.string r) ∧ Below w.heap.size w w' := by
  have HT : Hid (Tabs w ki) := ht
  clear ht
  go_enter Tryd.func16, Tryd.ntmps16
  go_upto_region 1 with fail
  refine name_world _ ?_
  intro wF hF0
  have RR : Hid (RB w wF [(w.heap.size, (P9 x y false))]) := by rw [hF0]; exact (rbN (rb0 w) (by simp))
  clear hF0
  obtain ⟨q0, qT⟩ := RR.out.r.lts
  refine wp_region_told (by kernel_rfl) (by kernel_rfl) (by kernel_rfl) [(w.heap.size, (P9 x y false))]
    [sV (PO w.heap.size 8),
     sV (.bool false)]
    (by kernel_rfl) RR.out.b (RowsAt.cons (RR.out.at 0 rfl) RowsAt.nil) (StOk.of [] rfl StM.nil)
    (Obs.val (fun a' w' E => ob_fieldAddr 26 (.tmp 1) 2 rfl (E.old 1 (by kernel_rfl)) (fa26_2 _ _ w'))
    (Obs.val (fun a' w' E => ob_load1 4 (.tmp 4) rfl (E.new (v := (PO w.heap.size 8)) 4 0 (by kernel_rfl) rfl) (E.row (g := w.heap.size) (c := (P9 x y false)) 0 rfl) Tryd.underlying4 rfl rfl)
    Obs.nil)) ?_
  intro bs w1 aZ haZ F
  have eZ : aZ = ({ tmps := #[(A9 x y false), (PT w.heap.size), (.string { data := #[] }), undef, (PO w.heap.size 8), (.bool false), undef, undef, undef, undef, undef, undef, undef, undef, undef, undef, undef, undef, undef], defers := [] } : Act) := haZ.trans (by kernel_rfl)
  subst eZ
  clear haZ
  replace RR : Hid (RB w w1 [(w.heap.size, (P9 x y false))]) := ⟨F.bw, (RowsAt.cons (F.row 0 rfl) RowsAt.nil)⟩
  clear F qT q0
  clear wF
  go_upto_region 3 with fail
  obtain ⟨q0, qT⟩ := RR.out.r.lts
  refine wp_region_told (by kernel_rfl) (by kernel_rfl) (by kernel_rfl) [(w.heap.size, (P9 x y false))]
    [sV (PT w.heap.size),
     sV (U x),
     sV (.string a),
     sV (PO w.heap.size 4),
     sV (U y),
     sV (.string b),
     sV (.string ((a ++ b))),
     sV (.string d),
     sV (.string d)]
    (by kernel_rfl) RR.out.b (RowsAt.cons (RR.out.at 0 rfl) RowsAt.nil) (StOk.of [] rfl StM.nil)
    (Obs.val (fun a' w' E => ob_fieldAddr 26 (.tmp 1) 0 rfl (E.old 1 (by kernel_rfl)) (fa26_0 _ _ w'))
    (Obs.val (fun a' w' E => ob_loada 24 (.tmp 6) rfl (E.new (v := (PT w.heap.size)) 6 0 (by kernel_rfl) rfl) (E.row (g := w.heap.size) (c := (P9 x y false)) 0 rfl) Tryd.underlying24 rfl (by kernel_rfl) rfl)
    (Obs.val (fun a' w' E => ob_fcall 39 _ _ rfl (am1 (E.new (v := (U x)) 7 1 (by kernel_rfl) rfl)) (fc39 _ _) (h1.out w'))
    (Obs.val (fun a' w' E => ob_fieldAddr 26 (.tmp 1) 1 rfl (E.old 1 (by kernel_rfl)) (fa26_1 _ _ w'))
    (Obs.val (fun a' w' E => ob_loada 24 (.tmp 9) rfl (E.new (v := (PO w.heap.size 4)) 9 3 (by kernel_rfl) rfl) (E.row (g := w.heap.size) (c := (P9 x y false)) 0 rfl) Tryd.underlying24 rfl (by kernel_rfl) rfl)
    (Obs.val (fun a' w' E => ob_fcall 39 _ _ rfl (am1 (E.new (v := (U y)) 10 4 (by kernel_rfl) rfl)) (fc39 _ _) (h2.out w'))
    (Obs.val (fun a' w' E => ob_binOp .add 9 (.tmp 8) (.tmp 11) 9 rfl (E.new (v := (.string a)) 8 2 (by kernel_rfl) rfl) (E.new (v := (.string b)) 11 5 (by kernel_rfl) rfl) (by simp [go_sem, hab]))
    (Obs.val (fun a' w' E => ob_fcall 38 _ _ rfl (am1 (E.new (v := (.string ((a ++ b)))) 12 6 (by kernel_rfl) rfl)) (fc38 _ _) (tbl hS HT.out E.bw w'))
    (Obs.val (fun a' w' E => ob_assign (.tmp 13) rfl (E.new (v := (.string d)) 13 7 (by kernel_rfl) rfl))
    Obs.nil))))))))) ?_
  intro bs w2 aZ haZ F
  have eZ : aZ = ({ tmps := #[(A9 x y false), (PT w.heap.size), (.string { data := #[] }), (.string d), (PO w.heap.size 8), (.bool false), (PT w.heap.size), (U x), (.string a), (PO w.heap.size 4), (U y), (.string b), (.string ((a ++ b))), (.string d), undef, undef, undef, undef, undef], defers := [] } : Act) := haZ.trans (by kernel_rfl)
  subst eZ
  clear haZ
  replace RR : Hid (RB w w2 [(w.heap.size, (P9 x y false))]) := ⟨F.bw, (RowsAt.cons (F.row 0 rfl) RowsAt.nil)⟩
  clear F qT q0
  go_upto_region 4 with fail
  obtain ⟨q0, qT⟩ := RR.out.r.lts
  refine wp_region_told (by kernel_rfl) (by kernel_rfl) (by kernel_rfl) [(w.heap.size, (P9 x y false))]
    [sV (.string d),
     sV (.string d),
     sV (.int .i64 32),
     sV (.int .i64 12),
     sV (.string r),
     sV (.string r)]
    (by kernel_rfl) RR.out.b (RowsAt.cons (RR.out.at 0 rfl) RowsAt.nil) (StOk.of [] rfl StM.nil)
    (Obs.val (fun a' w' E => ob_move (.tmp 3) rfl (E.old 3 (by kernel_rfl)))
    (Obs.val (fun a' w' E => ob_move (.tmp 3) rfl (E.old 3 (by kernel_rfl)))
    (Obs.val (fun a' w' E => ob_val (by simp [opAt, execOp, go_sem, ev (show a'.eval (.tmp 15) = (.string d) from (E.new (v := (.string d)) 15 1 (by kernel_rfl) rfl)), hl]))
    (Obs.val (fun a' w' E => ob_binOp .sub 3 (.tmp 16) (.const (.int .i64 20)) 3 rfl (E.new (v := (.int .i64 32)) 16 2 (by kernel_rfl) rfl) (evc a' (.int .i64 20)) (by simp [go_sem, hw]))
    (Obs.val (fun a' w' E => ob_val (by simp [opAt, execOp, go_sem, ev (show a'.eval (.tmp 14) = (.string d) from (E.new (v := (.string d)) 14 0 (by kernel_rfl) rfl)), ev (show a'.eval (.tmp 17) = (.int .i64 12) from (E.new (v := (.int .i64 12)) 17 3 (by kernel_rfl) rfl)), hsl]))
    (Obs.val (fun a' w' E => ob_assign (.tmp 18) rfl (E.new (v := (.string r)) 18 4 (by kernel_rfl) rfl))
    Obs.nil)))))) ?_
  intro bs w3 aZ haZ F
  have eZ : aZ = ({ tmps := #[(A9 x y false), (PT w.heap.size), (.string r), (.string d), (PO w.heap.size 8), (.bool false), (PT w.heap.size), (U x), (.string a), (PO w.heap.size 4), (U y), (.string b), (.string ((a ++ b))), (.string d), (.string d), (.string d), (.int .i64 32), (.int .i64 12), (.string r)], defers := [] } : Act) := haZ.trans (by kernel_rfl)
  subst eZ
  clear haZ
  replace RR : Hid (RB w w3 [(w.heap.size, (P9 x y false))]) := ⟨F.bw, (RowsAt.cons (F.row 0 rfl) RowsAt.nil)⟩
  clear F qT q0
  go_wp2
  exact bodyPost_ret (v := (.string r)) (by simp [results, Tryd.results16, go_sem]) rfl ⟨rfl, RR.out.b⟩
set_option maxRecDepth 100000 in
set_option maxHeartbeats 4000000 in
theorem who_no (k : Nat) (hP : Does 7 #[(U k)] (.tuple #[(A9 0 0 false), (.int .i64 5)])) 
    (w : World) (ht : Tabs w ki) : Calls Tryd.prog 9 #[(U k)] w fun e w' => e = .returned (.tuple #[(.string { data := #[] }), (.int .i64 5)]) ∧ Below w.heap.size w w' := by
  have HT : Hid (Tabs w ki) := ht
  clear ht
  go_enter Tryd.func9, Tryd.ntmps9
  go_upto_region 1 with fail
  refine name_world _ ?_
  intro wF hF0
  have RR : Hid (RB w wF [(w.heap.size, (Ar k))]) := by rw [hF0]; exact (rbN (rb0 w) (by simp))
  clear hF0
  obtain ⟨q0, qT⟩ := RR.out.r.lts
  refine wp_region_told (by kernel_rfl) (by kernel_rfl) (by kernel_rfl) [(w.heap.size, (Ar k))]
    [sV (U k),
     sV (.tuple #[(A9 0 0 false), (.int .i64 5)]),
     sV (.tuple #[(A9 0 0 false), (.int .i64 5)]),
     sV (A9 0 0 false),
     sV (.int .i64 5),
     sA (fun g => .pointer (some ⟨g, 0, none⟩)) 6 Z9 (P9 0 0 false),
     sS 5,
     sV (.int .i64 5)]
    (by kernel_rfl) RR.out.b (RowsAt.cons (RR.out.at 0 rfl) RowsAt.nil) (StOk.of [] rfl StM.nil)
    (Obs.val (fun a' w' E => ob_loada 24 (.tmp 1) rfl (E.old 1 (by kernel_rfl)) (E.row (g := w.heap.size) (c := (Ar k)) 0 rfl) Tryd.underlying24 rfl (by kernel_rfl) rfl)
    (Obs.val (fun a' w' E => ob_fcall 7 _ _ rfl (am1 (E.new (v := (U k)) 7 0 (by kernel_rfl) rfl)) (fc7 _ _) (hP.out w'))
    (Obs.val (fun a' w' E => ob_move (.tmp 8) rfl (E.new (v := (.tuple #[(A9 0 0 false), (.int .i64 5)])) 8 1 (by kernel_rfl) rfl))
    (Obs.val (fun a' w' E => ob_extract (.tmp 6) 0 rfl (E.new (v := (.tuple #[(A9 0 0 false), (.int .i64 5)])) 6 2 (by kernel_rfl) rfl) rfl)
    (Obs.val (fun a' w' E => ob_extract (.tmp 6) 1 rfl (E.new (v := (.tuple #[(A9 0 0 false), (.int .i64 5)])) 6 2 (by kernel_rfl) rfl) rfl)
    (Obs.alloc (fun a' w' E => ob_alloc (t := 26) (by simp [opAt, execOp, go_sem]))
    (Obs.sta rfl (fun a' w' g E ha hr => ob_storea 26 (.tmp 4) (.tmp 9) rfl (ha 4 (by kernel_rfl)) (E.new (v := (A9 0 0 false)) 9 3 (by kernel_rfl) rfl) rfl hr (by kernel_rfl) (Nat.le_of_ble_eq_true rfl) (by kernel_rfl) rfl)
    (Obs.val (fun a' w' E => ob_assign (.tmp 10) rfl (E.new (v := (.int .i64 5)) 10 4 (by kernel_rfl) rfl))
    Obs.nil)))))))) ?_
  intro bs w1 aZ haZ F
  have eZ : aZ = ({ tmps := #[(U k), (PT w.heap.size), (.string { data := #[] }), (.int .i64 0), (PT ((bs 5))), (.int .i64 5), (.tuple #[(A9 0 0 false), (.int .i64 5)]), (U k), (.tuple #[(A9 0 0 false), (.int .i64 5)]), (A9 0 0 false), (.int .i64 5), undef, undef, undef, undef, undef], defers := [] } : Act) := haZ.trans (by kernel_rfl)
  subst eZ
  clear haZ
  obtain ⟨h5, X5⟩ := F.al 5 rfl rfl
  replace RR : Hid (RB w w1 [((bs 5), (P9 0 0 false)), (w.heap.size, (Ar k))]) := ⟨F.bw, (RowsAt.cons X5 (RowsAt.cons (F.row 0 rfl) RowsAt.nil))⟩
  generalize bs 5 = g1_5 at *
  have k1_5_0 := Nat.lt_of_lt_of_le q0 h5
  clear F qT q0 h5 X5
  clear wF
  go_upto_region 2 with fail
  obtain ⟨q1, q0, qT⟩ := RR.out.r.lts
  refine wp_region_told (by kernel_rfl) (by kernel_rfl) (by kernel_rfl) [(w.heap.size, (Ar k)), (g1_5, (P9 0 0 false))]
    [sV (.int .i64 5),
     sV (.bool true)]
    (by kernel_rfl) RR.out.b (RowsAt.cons (RR.out.at 1 rfl) (RowsAt.cons (RR.out.at 0 rfl) RowsAt.nil)) (StOk.of [] rfl StM.nil)
    (Obs.val (fun a' w' E => ob_move (.tmp 5) rfl (E.old 5 (by kernel_rfl)))
    (Obs.val (fun a' w' E => ob_binOp .neq 27 (.tmp 11) (.const (.int .i64 0)) 27 rfl (E.new (v := (.int .i64 5)) 11 0 (by kernel_rfl) rfl) (evc a' (.int .i64 0)) (by simp [go_sem]))
    Obs.nil)) ?_
  intro bs w2 aZ haZ F
  have eZ : aZ = ({ tmps := #[(U k), (PT w.heap.size), (.string { data := #[] }), (.int .i64 0), (PT g1_5), (.int .i64 5), (.tuple #[(A9 0 0 false), (.int .i64 5)]), (U k), (.tuple #[(A9 0 0 false), (.int .i64 5)]), (A9 0 0 false), (.int .i64 5), (.int .i64 5), (.bool true), undef, undef, undef], defers := [] } : Act) := haZ.trans (by kernel_rfl)
  subst eZ
  clear haZ
  replace RR : Hid (RB w w2 [(g1_5, (P9 0 0 false)), (w.heap.size, (Ar k))]) := ⟨F.bw, (RowsAt.cons (F.row 1 rfl) (RowsAt.cons (F.row 0 rfl) RowsAt.nil))⟩
  clear F qT q0 q1
  go_upto_region 3 with fail
  obtain ⟨q1, q0, qT⟩ := RR.out.r.lts
  refine wp_region_told (by kernel_rfl) (by kernel_rfl) (by kernel_rfl) [(w.heap.size, (Ar k)), (g1_5, (P9 0 0 false))]
    [sV (.int .i64 5),
     sV (.string { data := #[] }),
     sV (.int .i64 5)]
    (by kernel_rfl) RR.out.b (RowsAt.cons (RR.out.at 1 rfl) (RowsAt.cons (RR.out.at 0 rfl) RowsAt.nil)) (StOk.of [] rfl StM.nil)
    (Obs.val (fun a' w' E => ob_move (.tmp 5) rfl (E.old 5 (by kernel_rfl)))
    (Obs.val (fun a' w' E => ob_assign (.const (.string { data := #[] })) rfl (evc a' (.string { data := #[] })))
    (Obs.val (fun a' w' E => ob_assign (.tmp 13) rfl (E.new (v := (.int .i64 5)) 13 0 (by kernel_rfl) rfl))
    Obs.nil))) ?_
  intro bs w3 aZ haZ F
  have eZ : aZ = ({ tmps := #[(U k), (PT w.heap.size), (.string { data := #[] }), (.int .i64 5), (PT g1_5), (.int .i64 5), (.tuple #[(A9 0 0 false), (.int .i64 5)]), (U k), (.tuple #[(A9 0 0 false), (.int .i64 5)]), (A9 0 0 false), (.int .i64 5), (.int .i64 5), (.bool true), (.int .i64 5), undef, undef], defers := [] } : Act) := haZ.trans (by kernel_rfl)
  subst eZ
  clear haZ
  replace RR : Hid (RB w w3 [(g1_5, (P9 0 0 false)), (w.heap.size, (Ar k))]) := ⟨F.bw, (RowsAt.cons (F.row 1 rfl) (RowsAt.cons (F.row 0 rfl) RowsAt.nil))⟩
  clear F qT q0 q1
  go_wp2
  exact bodyPost_ret (v := (.tuple #[(.string { data := #[] }), (.int .i64 5)])) (by simp [results, Tryd.results9, go_sem]) rfl ⟨rfl, RR.out.b⟩
set_option maxRecDepth 100000 in
set_option maxHeartbeats 4000000 in
theorem who_yes (k px py : Nat) (pn : Bool) (s : ByteArray) (hP : Does 7 #[(U k)] (.tuple #[(A9 px py pn), (.int .i64 0)])) (hA : DoesT 16 #[(A9 px py pn)] (.string s)) 
    (w : World) (ht : Tabs w ki) : Calls Tryd.prog 9 #[(U k)] w fun e w' => e = .returned (.tuple #[(.string s), (.int .i64 0)]) ∧ Below w.heap.size w w' := by
  have HT : Hid (Tabs w ki) := ht
  clear ht
  go_enter Tryd.func9, Tryd.ntmps9
  go_upto_region 1 with fail
  refine name_world _ ?_
  intro wF hF0
  have RR : Hid (RB w wF [(w.heap.size, (Ar k))]) := by rw [hF0]; exact (rbN (rb0 w) (by simp))
  clear hF0
  obtain ⟨q0, qT⟩ := RR.out.r.lts
  refine wp_region_told (by kernel_rfl) (by kernel_rfl) (by kernel_rfl) [(w.heap.size, (Ar k))]
    [sV (U k),
     sV (.tuple #[(A9 px py pn), (.int .i64 0)]),
     sV (.tuple #[(A9 px py pn), (.int .i64 0)]),
     sV (A9 px py pn),
     sV (.int .i64 0),
     sA (fun g => .pointer (some ⟨g, 0, none⟩)) 6 Z9 (P9 px py pn),
     sS 5,
     sV (.int .i64 0)]
    (by kernel_rfl) RR.out.b (RowsAt.cons (RR.out.at 0 rfl) RowsAt.nil) (StOk.of [] rfl StM.nil)
    (Obs.val (fun a' w' E => ob_loada 24 (.tmp 1) rfl (E.old 1 (by kernel_rfl)) (E.row (g := w.heap.size) (c := (Ar k)) 0 rfl) Tryd.underlying24 rfl (by kernel_rfl) rfl)
    (Obs.val (fun a' w' E => ob_fcall 7 _ _ rfl (am1 (E.new (v := (U k)) 7 0 (by kernel_rfl) rfl)) (fc7 _ _) (hP.out w'))
    (Obs.val (fun a' w' E => ob_move (.tmp 8) rfl (E.new (v := (.tuple #[(A9 px py pn), (.int .i64 0)])) 8 1 (by kernel_rfl) rfl))
    (Obs.val (fun a' w' E => ob_extract (.tmp 6) 0 rfl (E.new (v := (.tuple #[(A9 px py pn), (.int .i64 0)])) 6 2 (by kernel_rfl) rfl) rfl)
    (Obs.val (fun a' w' E => ob_extract (.tmp 6) 1 rfl (E.new (v := (.tuple #[(A9 px py pn), (.int .i64 0)])) 6 2 (by kernel_rfl) rfl) rfl)
    (Obs.alloc (fun a' w' E => ob_alloc (t := 26) (by simp [opAt, execOp, go_sem]))
    (Obs.sta rfl (fun a' w' g E ha hr => ob_storea 26 (.tmp 4) (.tmp 9) rfl (ha 4 (by kernel_rfl)) (E.new (v := (A9 px py pn)) 9 3 (by kernel_rfl) rfl) rfl hr (by kernel_rfl) (Nat.le_of_ble_eq_true rfl) (by kernel_rfl) rfl)
    (Obs.val (fun a' w' E => ob_assign (.tmp 10) rfl (E.new (v := (.int .i64 0)) 10 4 (by kernel_rfl) rfl))
    Obs.nil)))))))) ?_
  intro bs w1 aZ haZ F
  have eZ : aZ = ({ tmps := #[(U k), (PT w.heap.size), (.string { data := #[] }), (.int .i64 0), (PT ((bs 5))), (.int .i64 0), (.tuple #[(A9 px py pn), (.int .i64 0)]), (U k), (.tuple #[(A9 px py pn), (.int .i64 0)]), (A9 px py pn), (.int .i64 0), undef, undef, undef, undef, undef], defers := [] } : Act) := haZ.trans (by kernel_rfl)
  subst eZ
  clear haZ
  obtain ⟨h5, X5⟩ := F.al 5 rfl rfl
  replace RR : Hid (RB w w1 [((bs 5), (P9 px py pn)), (w.heap.size, (Ar k))]) := ⟨F.bw, (RowsAt.cons X5 (RowsAt.cons (F.row 0 rfl) RowsAt.nil))⟩
  generalize bs 5 = g1_5 at *
  have k1_5_0 := Nat.lt_of_lt_of_le q0 h5
  clear F qT q0 h5 X5
  clear wF
  go_upto_region 2 with fail
  obtain ⟨q1, q0, qT⟩ := RR.out.r.lts
  refine wp_region_told (by kernel_rfl) (by kernel_rfl) (by kernel_rfl) [(w.heap.size, (Ar k)), (g1_5, (P9 px py pn))]
    [sV (.int .i64 0),
     sV (.bool false)]
    (by kernel_rfl) RR.out.b (RowsAt.cons (RR.out.at 1 rfl) (RowsAt.cons (RR.out.at 0 rfl) RowsAt.nil)) (StOk.of [] rfl StM.nil)
    (Obs.val (fun a' w' E => ob_move (.tmp 5) rfl (E.old 5 (by kernel_rfl)))
    (Obs.val (fun a' w' E => ob_binOp .neq 27 (.tmp 11) (.const (.int .i64 0)) 27 rfl (E.new (v := (.int .i64 0)) 11 0 (by kernel_rfl) rfl) (evc a' (.int .i64 0)) (by simp [go_sem]))
    Obs.nil)) ?_
  intro bs w2 aZ haZ F
  have eZ : aZ = ({ tmps := #[(U k), (PT w.heap.size), (.string { data := #[] }), (.int .i64 0), (PT g1_5), (.int .i64 0), (.tuple #[(A9 px py pn), (.int .i64 0)]), (U k), (.tuple #[(A9 px py pn), (.int .i64 0)]), (A9 px py pn), (.int .i64 0), (.int .i64 0), (.bool false), undef, undef, undef], defers := [] } : Act) := haZ.trans (by kernel_rfl)
  subst eZ
  clear haZ
  replace RR : Hid (RB w w2 [(g1_5, (P9 px py pn)), (w.heap.size, (Ar k))]) := ⟨F.bw, (RowsAt.cons (F.row 1 rfl) (RowsAt.cons (F.row 0 rfl) RowsAt.nil))⟩
  clear F qT q0 q1
  go_upto_region 4 with fail
  obtain ⟨q1, q0, qT⟩ := RR.out.r.lts
  refine wp_region_told (by kernel_rfl) (by kernel_rfl) (by kernel_rfl) [(w.heap.size, (Ar k)), (g1_5, (P9 px py pn))]
    [sV (A9 px py pn),
     sV (.string s),
     sV (.string s),
     sV (.int .i64 0)]
    (by kernel_rfl) RR.out.b (RowsAt.cons (RR.out.at 1 rfl) (RowsAt.cons (RR.out.at 0 rfl) RowsAt.nil)) (StOk.of [] rfl StM.nil)
    (Obs.val (fun a' w' E => ob_loada 26 (.tmp 4) rfl (E.old 4 (by kernel_rfl)) (E.row (g := g1_5) (c := (P9 px py pn)) 1 rfl) Tryd.underlying26 rfl (by kernel_rfl) rfl)
    (Obs.val (fun a' w' E => ob_fcall 16 _ _ rfl (am1 (E.new (v := (A9 px py pn)) 14 0 (by kernel_rfl) rfl)) (fc16 _ _) (tbl hA HT.out E.bw w'))
    (Obs.val (fun a' w' E => ob_assign (.tmp 15) rfl (E.new (v := (.string s)) 15 1 (by kernel_rfl) rfl))
    (Obs.val (fun a' w' E => ob_assign (.const (.int .i64 0)) rfl (evc a' (.int .i64 0)))
    Obs.nil)))) ?_
  intro bs w3 aZ haZ F
  have eZ : aZ = ({ tmps := #[(U k), (PT w.heap.size), (.string s), (.int .i64 0), (PT g1_5), (.int .i64 0), (.tuple #[(A9 px py pn), (.int .i64 0)]), (U k), (.tuple #[(A9 px py pn), (.int .i64 0)]), (A9 px py pn), (.int .i64 0), (.int .i64 0), (.bool false), undef, (A9 px py pn), (.string s)], defers := [] } : Act) := haZ.trans (by kernel_rfl)
  subst eZ
  clear haZ
  replace RR : Hid (RB w w3 [(g1_5, (P9 px py pn)), (w.heap.size, (Ar k))]) := ⟨F.bw, (RowsAt.cons (F.row 1 rfl) (RowsAt.cons (F.row 0 rfl) RowsAt.nil))⟩
  clear F qT q0 q1
  go_wp2
  exact bodyPost_ret (v := (.tuple #[(.string s), (.int .i64 0)])) (by simp [results, Tryd.results9, go_sem]) rfl ⟨rfl, RR.out.b⟩
end Go.Proofs.YtpdoonofipcbeaaDoor
