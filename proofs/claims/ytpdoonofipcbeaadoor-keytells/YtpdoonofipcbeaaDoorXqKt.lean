/- Raw walks of KeyTells, over letters. -/
import Derived.Test.YtpdoonofipcbeaaDoorXqMC
import Derived.Test.YtpdoonofipcbeaaDoorXqQc
import Derived.Test.YtpdoonofipcbeaaDoorXqEq
import Derived.WalkSmall
import Derived.Deep.Cut
import Derived.Deep.Light
namespace Go.Proofs.YtpdoonofipcbeaaDoor
open Go.RowKit Go.Sort
set_option linter.unusedVariables false
set_option maxRecDepth 100000 in
set_option maxHeartbeats 4000000 in
theorem tells_a (k n m ax ay px py : Nat) (an pn fb : Bool) (c r : ByteArray) (ev gv : Int) (h1 : Does 7 #[(U k)] (.tuple #[(A9 ax ay an), (.int .i64 ev)])) (h2 : Does 8 #[(U k)] (.tuple #[(A9 ax ay an), (.int .i64 ev)])) (h3 : DoesT 9 #[(U k)] (.tuple #[(.string c), (.int .i64 gv)])) (h4 : Does 10 #[(U k)] (.tuple #[(.string c), (.int .i64 gv)])) (h5 : Does 11 #[(U k)] (.bool fb)) (h6 : Does 12 #[(U k)] (.bool fb)) (h7 : Does 13 #[(B n)] (U m)) (h8 : Does 14 #[(B n)] (U m)) (hO : Does 15 #[(A9 px py pn)] (.bool false)) (hW : DoesT 18 #[] (.bool true)) (hE0 : ∀ w, (Op.equalIn 10000 26 (A9 ax ay an) (A9 ax ay an)).run Tryd.prog w = .ok true w) (hE1 : ∀ w, (Op.equalIn 10000 24 (U m) (U m)).run Tryd.prog w = .ok true w)
    (w : World) (ht : Tabs w ki) : Calls Tryd.prog 3 #[(U k), (B n), (A9 px py pn)] w fun e w' => e = .returned (.bool true) ∧ Below w.heap.size w w' := by
  have HT : Hid (Tabs w ki) := ht
  clear ht
  go_enter Tryd.func3, Tryd.ntmps3
  go_upto_region 1 with fail
  refine name_world _ ?_
  intro wF hF0
  have RR : Hid (RB w wF [(w.heap.size + 1, (P9 px py pn)), (w.heap.size, (Ar k))]) := by rw [hF0]; exact (rbN (rbN (rb0 w) (by simp)) (by simp))
  clear hF0
  obtain ⟨q1, q0, qT⟩ := RR.out.r.lts
  refine wp_told [(w.heap.size, (Ar k)), (w.heap.size + 1, (P9 px py pn))]
    [sV (U k),
     sV (.tuple #[(A9 ax ay an), (.int .i64 ev)]),
     sV (.tuple #[(A9 ax ay an), (.int .i64 ev)]),
     sV (A9 ax ay an),
     sV (.int .i64 ev),
     sA (fun g => .pointer (some ⟨g, 0, none⟩)) 6 Z9 (P9 ax ay an),
     sS 5,
     sV (.int .i64 ev)]
    RR.out.b (Rc (RR.out.at 1 rfl) (Rc (RR.out.at 0 rfl) RowsAt.nil)) (StOk.of [] rfl StM.nil)
    (Obs.val (fun a' w' E => ob_la 24 (.tmp 3) (E.od 3) (E.row (g := w.heap.size) (c := (Ar k)) 0 rfl) Tryd.underlying24)
    (Obs.val (fun a' w' E => ob_fcall 7 _ _ rfl (am1 (E.n (U k) 16 0)) (fc7 _ _) (h1.out w'))
    (Obs.val (fun a' w' E => ob_move (.tmp 17) rfl (E.n (.tuple #[(A9 ax ay an), (.int .i64 ev)]) 17 1))
    (Obs.val (fun a' w' E => ob_extract (.tmp 15) 0 rfl (E.n (.tuple #[(A9 ax ay an), (.int .i64 ev)]) 15 2) rfl)
    (Obs.val (fun a' w' E => ob_extract (.tmp 15) 1 rfl (E.n (.tuple #[(A9 ax ay an), (.int .i64 ev)]) 15 2) rfl)
    (Obs.alloc (fun a' w' E => ob_alloc (t := 26) (by simp [opAt, execOp, go_sem]))
    (Obs.sta rfl (fun a' w' g E ha hr => ob_sa 26 (.tmp 7) (.tmp 18) (ha 7 (by kernel_rfl)) (E.n (A9 ax ay an) 18 3) hr)
    (Obs.val (fun a' w' E => ob_assign (.tmp 19) rfl (E.n (.int .i64 ev) 19 4))
    Obs.nil)))))))) ?_
  intro bs w1 aZ haZ F
  have eZ : aZ = (⟨#[(U k), (B n), (A9 px py pn), (PT w.heap.size), ud, (PT (w.heap.size + 1)), (.bool false), (PT ((bs 5))), (.int .i64 ev), ud, ud, ud, ud, ud, ud, (.tuple #[(A9 ax ay an), (.int .i64 ev)]), (U k), (.tuple #[(A9 ax ay an), (.int .i64 ev)]), (A9 ax ay an), (.int .i64 ev), ud, ud, ud, ud, ud, ud, ud, ud, ud, ud, ud, ud, ud, ud, ud, ud, ud, ud, ud, ud, ud, ud, ud, ud, ud, ud, ud, ud, ud, ud, ud, ud, ud, ud, ud, ud, ud, ud, ud, ud, ud, ud, ud, ud, ud, ud, ud, ud, ud, ud, ud, ud, ud, ud, ud, ud, ud, ud, ud, ud], []⟩ : Act) := haZ.trans (by kernel_rfl)
  subst eZ
  clear haZ
  obtain ⟨h5, X5⟩ := F.al 5 rfl rfl
  replace RR : Hid (RB w w1 [((bs 5), (P9 ax ay an)), (w.heap.size + 1, (P9 px py pn)), (w.heap.size, (Ar k))]) := ⟨F.bw, (Rc X5 (Rc (F.row 1 rfl) (Rc (F.row 0 rfl) RowsAt.nil)))⟩
  generalize bs 5 = g1_5 at *
  have k1_5_0 := Nat.lt_of_lt_of_le q0 h5
  have k1_5_1 := Nat.lt_of_lt_of_le q1 h5
  clear F qT q0 q1 h5 X5
  clear wF
  go_upto_region 2 with fail
  obtain ⟨q2, q1, q0, qT⟩ := RR.out.r.lts
  refine wp_told [(w.heap.size, (Ar k)), (w.heap.size + 1, (P9 px py pn)), (g1_5, (P9 ax ay an))]
    [sV (U k),
     sV (.tuple #[(A9 ax ay an), (.int .i64 ev)]),
     sV (.tuple #[(A9 ax ay an), (.int .i64 ev)]),
     sV (A9 ax ay an),
     sV (.int .i64 ev),
     sA (fun g => .pointer (some ⟨g, 0, none⟩)) 6 Z9 (P9 ax ay an),
     sS 5,
     sV (.int .i64 ev)]
    RR.out.b (Rc (RR.out.at 2 rfl) (Rc (RR.out.at 1 rfl) (Rc (RR.out.at 0 rfl) RowsAt.nil))) (StOk.of [] rfl StM.nil)
    (Obs.val (fun a' w' E => ob_la 24 (.tmp 3) (E.od 3) (E.row (g := w.heap.size) (c := (Ar k)) 0 rfl) Tryd.underlying24)
    (Obs.val (fun a' w' E => ob_fcall 8 _ _ rfl (am1 (E.n (U k) 21 0)) (fc8 _ _) (h2.out w'))
    (Obs.val (fun a' w' E => ob_move (.tmp 22) rfl (E.n (.tuple #[(A9 ax ay an), (.int .i64 ev)]) 22 1))
    (Obs.val (fun a' w' E => ob_extract (.tmp 20) 0 rfl (E.n (.tuple #[(A9 ax ay an), (.int .i64 ev)]) 20 2) rfl)
    (Obs.val (fun a' w' E => ob_extract (.tmp 20) 1 rfl (E.n (.tuple #[(A9 ax ay an), (.int .i64 ev)]) 20 2) rfl)
    (Obs.alloc (fun a' w' E => ob_alloc (t := 26) (by simp [opAt, execOp, go_sem]))
    (Obs.sta rfl (fun a' w' g E ha hr => ob_sa 26 (.tmp 9) (.tmp 23) (ha 9 (by kernel_rfl)) (E.n (A9 ax ay an) 23 3) hr)
    (Obs.val (fun a' w' E => ob_assign (.tmp 24) rfl (E.n (.int .i64 ev) 24 4))
    Obs.nil)))))))) ?_
  intro bs w2 aZ haZ F
  have eZ : aZ = (⟨#[(U k), (B n), (A9 px py pn), (PT w.heap.size), ud, (PT (w.heap.size + 1)), (.bool false), (PT g1_5), (.int .i64 ev), (PT ((bs 5))), (.int .i64 ev), ud, ud, ud, ud, (.tuple #[(A9 ax ay an), (.int .i64 ev)]), (U k), (.tuple #[(A9 ax ay an), (.int .i64 ev)]), (A9 ax ay an), (.int .i64 ev), (.tuple #[(A9 ax ay an), (.int .i64 ev)]), (U k), (.tuple #[(A9 ax ay an), (.int .i64 ev)]), (A9 ax ay an), (.int .i64 ev), ud, ud, ud, ud, ud, ud, ud, ud, ud, ud, ud, ud, ud, ud, ud, ud, ud, ud, ud, ud, ud, ud, ud, ud, ud, ud, ud, ud, ud, ud, ud, ud, ud, ud, ud, ud, ud, ud, ud, ud, ud, ud, ud, ud, ud, ud, ud, ud, ud, ud, ud, ud, ud, ud, ud], []⟩ : Act) := haZ.trans (by kernel_rfl)
  subst eZ
  clear haZ
  obtain ⟨h5, X5⟩ := F.al 5 rfl rfl
  replace RR : Hid (RB w w2 [((bs 5), (P9 ax ay an)), (g1_5, (P9 ax ay an)), (w.heap.size + 1, (P9 px py pn)), (w.heap.size, (Ar k))]) := ⟨F.bw, (Rc X5 (Rc (F.row 2 rfl) (Rc (F.row 1 rfl) (Rc (F.row 0 rfl) RowsAt.nil))))⟩
  generalize bs 5 = g2_5 at *
  have k2_5_0 := Nat.lt_of_lt_of_le q0 h5
  have k2_5_1 := Nat.lt_of_lt_of_le q1 h5
  have k2_5_2 := Nat.lt_of_lt_of_le q2 h5
  clear F qT q0 q1 q2 h5 X5
  go_upto_region 3 with fail
  obtain ⟨q3, q2, q1, q0, qT⟩ := RR.out.r.lts
  refine wp_told [(w.heap.size, (Ar k)), (w.heap.size + 1, (P9 px py pn)), (g1_5, (P9 ax ay an)), (g2_5, (P9 ax ay an))]
    [sV (U k),
     sV (.tuple #[(.string c), (.int .i64 gv)]),
     sV (.tuple #[(.string c), (.int .i64 gv)]),
     sV (.string c),
     sV (.int .i64 gv),
     sV (.string c),
     sV (.int .i64 gv)]
    RR.out.b (Rc (RR.out.at 3 rfl) (Rc (RR.out.at 2 rfl) (Rc (RR.out.at 1 rfl) (Rc (RR.out.at 0 rfl) RowsAt.nil)))) (StOk.of [] rfl StM.nil)
    (Obs.val (fun a' w' E => ob_la 24 (.tmp 3) (E.od 3) (E.row (g := w.heap.size) (c := (Ar k)) 0 rfl) Tryd.underlying24)
    (Obs.val (fun a' w' E => ob_fcall 9 _ _ rfl (am1 (E.n (U k) 26 0)) (fc9 _ _) (tbl h3 HT.out E.bw w'))
    (Obs.val (fun a' w' E => ob_move (.tmp 27) rfl (E.n (.tuple #[(.string c), (.int .i64 gv)]) 27 1))
    (Obs.val (fun a' w' E => ob_extract (.tmp 25) 0 rfl (E.n (.tuple #[(.string c), (.int .i64 gv)]) 25 2) rfl)
    (Obs.val (fun a' w' E => ob_extract (.tmp 25) 1 rfl (E.n (.tuple #[(.string c), (.int .i64 gv)]) 25 2) rfl)
    (Obs.val (fun a' w' E => ob_assign (.tmp 28) rfl (E.n (.string c) 28 3))
    (Obs.val (fun a' w' E => ob_assign (.tmp 29) rfl (E.n (.int .i64 gv) 29 4))
    Obs.nil))))))) ?_
  intro bs w3 aZ haZ F
  have eZ : aZ = (⟨#[(U k), (B n), (A9 px py pn), (PT w.heap.size), ud, (PT (w.heap.size + 1)), (.bool false), (PT g1_5), (.int .i64 ev), (PT g2_5), (.int .i64 ev), (.string c), (.int .i64 gv), ud, ud, (.tuple #[(A9 ax ay an), (.int .i64 ev)]), (U k), (.tuple #[(A9 ax ay an), (.int .i64 ev)]), (A9 ax ay an), (.int .i64 ev), (.tuple #[(A9 ax ay an), (.int .i64 ev)]), (U k), (.tuple #[(A9 ax ay an), (.int .i64 ev)]), (A9 ax ay an), (.int .i64 ev), (.tuple #[(.string c), (.int .i64 gv)]), (U k), (.tuple #[(.string c), (.int .i64 gv)]), (.string c), (.int .i64 gv), ud, ud, ud, ud, ud, ud, ud, ud, ud, ud, ud, ud, ud, ud, ud, ud, ud, ud, ud, ud, ud, ud, ud, ud, ud, ud, ud, ud, ud, ud, ud, ud, ud, ud, ud, ud, ud, ud, ud, ud, ud, ud, ud, ud, ud, ud, ud, ud, ud, ud], []⟩ : Act) := haZ.trans (by kernel_rfl)
  subst eZ
  clear haZ
  replace RR : Hid (RB w w3 [(g2_5, (P9 ax ay an)), (g1_5, (P9 ax ay an)), (w.heap.size + 1, (P9 px py pn)), (w.heap.size, (Ar k))]) := ⟨F.bw, (Rc (F.row 3 rfl) (Rc (F.row 2 rfl) (Rc (F.row 1 rfl) (Rc (F.row 0 rfl) RowsAt.nil))))⟩
  clear F qT q0 q1 q2 q3
  go_upto_region 4 with fail
  obtain ⟨q3, q2, q1, q0, qT⟩ := RR.out.r.lts
  refine wp_told [(w.heap.size, (Ar k)), (w.heap.size + 1, (P9 px py pn)), (g1_5, (P9 ax ay an)), (g2_5, (P9 ax ay an))]
    [sV (U k),
     sV (.tuple #[(.string c), (.int .i64 gv)]),
     sV (.tuple #[(.string c), (.int .i64 gv)]),
     sV (.string c),
     sV (.int .i64 gv),
     sV (.string c),
     sV (.int .i64 gv)]
    RR.out.b (Rc (RR.out.at 3 rfl) (Rc (RR.out.at 2 rfl) (Rc (RR.out.at 1 rfl) (Rc (RR.out.at 0 rfl) RowsAt.nil)))) (StOk.of [] rfl StM.nil)
    (Obs.val (fun a' w' E => ob_la 24 (.tmp 3) (E.od 3) (E.row (g := w.heap.size) (c := (Ar k)) 0 rfl) Tryd.underlying24)
    (Obs.val (fun a' w' E => ob_fcall 10 _ _ rfl (am1 (E.n (U k) 31 0)) (fc10 _ _) (h4.out w'))
    (Obs.val (fun a' w' E => ob_move (.tmp 32) rfl (E.n (.tuple #[(.string c), (.int .i64 gv)]) 32 1))
    (Obs.val (fun a' w' E => ob_extract (.tmp 30) 0 rfl (E.n (.tuple #[(.string c), (.int .i64 gv)]) 30 2) rfl)
    (Obs.val (fun a' w' E => ob_extract (.tmp 30) 1 rfl (E.n (.tuple #[(.string c), (.int .i64 gv)]) 30 2) rfl)
    (Obs.val (fun a' w' E => ob_assign (.tmp 33) rfl (E.n (.string c) 33 3))
    (Obs.val (fun a' w' E => ob_assign (.tmp 34) rfl (E.n (.int .i64 gv) 34 4))
    Obs.nil))))))) ?_
  intro bs w4 aZ haZ F
  have eZ : aZ = (⟨#[(U k), (B n), (A9 px py pn), (PT w.heap.size), ud, (PT (w.heap.size + 1)), (.bool false), (PT g1_5), (.int .i64 ev), (PT g2_5), (.int .i64 ev), (.string c), (.int .i64 gv), (.string c), (.int .i64 gv), (.tuple #[(A9 ax ay an), (.int .i64 ev)]), (U k), (.tuple #[(A9 ax ay an), (.int .i64 ev)]), (A9 ax ay an), (.int .i64 ev), (.tuple #[(A9 ax ay an), (.int .i64 ev)]), (U k), (.tuple #[(A9 ax ay an), (.int .i64 ev)]), (A9 ax ay an), (.int .i64 ev), (.tuple #[(.string c), (.int .i64 gv)]), (U k), (.tuple #[(.string c), (.int .i64 gv)]), (.string c), (.int .i64 gv), (.tuple #[(.string c), (.int .i64 gv)]), (U k), (.tuple #[(.string c), (.int .i64 gv)]), (.string c), (.int .i64 gv), ud, ud, ud, ud, ud, ud, ud, ud, ud, ud, ud, ud, ud, ud, ud, ud, ud, ud, ud, ud, ud, ud, ud, ud, ud, ud, ud, ud, ud, ud, ud, ud, ud, ud, ud, ud, ud, ud, ud, ud, ud, ud, ud, ud, ud], []⟩ : Act) := haZ.trans (by kernel_rfl)
  subst eZ
  clear haZ
  replace RR : Hid (RB w w4 [(g2_5, (P9 ax ay an)), (g1_5, (P9 ax ay an)), (w.heap.size + 1, (P9 px py pn)), (w.heap.size, (Ar k))]) := ⟨F.bw, (Rc (F.row 3 rfl) (Rc (F.row 2 rfl) (Rc (F.row 1 rfl) (Rc (F.row 0 rfl) RowsAt.nil))))⟩
  clear F qT q0 q1 q2 q3
  go_upto_region 5 with fail
  obtain ⟨q3, q2, q1, q0, qT⟩ := RR.out.r.lts
  refine wp_told [(w.heap.size, (Ar k)), (w.heap.size + 1, (P9 px py pn)), (g1_5, (P9 ax ay an)), (g2_5, (P9 ax ay an))]
    [sV (U k),
     sV (.bool fb),
     sV (U k),
     sV (.bool fb),
     sV (.bool false),
     sV (.bool false),
     sV (A9 ax ay an),
     sV (A9 ax ay an),
     sV (.bool false),
     sV (.bool false),
     sV (.bool false),
     sV (.int .i64 ev),
     sV (.int .i64 ev),
     sV (.bool false),
     sV (.bool false),
     sV (.bool false),
     sV (.string c),
     sV (.string c),
     sV (.bool false),
     sV (.bool false),
     sV (.bool false),
     sV (.int .i64 gv),
     sV (.int .i64 gv),
     sV (.bool false),
     sV (.bool false),
     sV (.bool false),
     sV (B n),
     sV (U m),
     sV (B n),
     sV (U m),
     sV (.bool false),
     sV (.bool false)]
    RR.out.b (Rc (RR.out.at 3 rfl) (Rc (RR.out.at 2 rfl) (Rc (RR.out.at 1 rfl) (Rc (RR.out.at 0 rfl) RowsAt.nil)))) (StOk.of [] rfl StM.nil)
    (Obs.val (fun a' w' E => ob_la 24 (.tmp 3) (E.od 3) (E.row (g := w.heap.size) (c := (Ar k)) 0 rfl) Tryd.underlying24)
    (Obs.val (fun a' w' E => ob_fcall 11 _ _ rfl (am1 (E.n (U k) 35 0)) (fc11 _ _) (h5.out w'))
    (Obs.val (fun a' w' E => ob_la 24 (.tmp 3) (E.od 3) (E.row (g := w.heap.size) (c := (Ar k)) 0 rfl) Tryd.underlying24)
    (Obs.val (fun a' w' E => ob_fcall 12 _ _ rfl (am1 (E.n (U k) 37 2)) (fc12 _ _) (h6.out w'))
    (Obs.val (fun a' w' E => ob_binOp .neq 4 (.tmp 36) (.tmp 38) 4 rfl (E.n (.bool fb) 36 1) (E.n (.bool fb) 38 3) (by simp [go_sem]))
    (Obs.val (fun a' w' E => ob_move (.tmp 39) rfl (E.n (.bool false) 39 4))
    (Obs.gval rfl rfl (fun a' w' E => E.new 40 5 (by kernel_rfl) rfl) (fun a' w' E => ob_la 26 (.tmp 7) (E.od 7) (E.row (g := g1_5) (c := (P9 ax ay an)) 2 rfl) Tryd.underlying26)
    (Obs.gval rfl rfl (fun a' w' E => E.new 40 5 (by kernel_rfl) rfl) (fun a' w' E => ob_la 26 (.tmp 9) (E.od 9) (E.row (g := g2_5) (c := (P9 ax ay an)) 3 rfl) Tryd.underlying26)
    (Obs.gval rfl rfl (fun a' w' E => E.new 40 5 (by kernel_rfl) rfl) (fun a' w' E => ob_binOp .neq 26 (.tmp 41) (.tmp 42) 26 rfl (E.n (A9 ax ay an) 41 6) (E.n (A9 ax ay an) 42 7) (by simp [go_sem, hE0]))
    (Obs.val (fun a' w' E => ob_pick (.tmp 40) (.const (.bool true)) (.tmp 43) rfl (E.n (.bool false) 40 5) (E.n (.bool false) 43 8))
    (Obs.val (fun a' w' E => ob_move (.tmp 44) rfl (E.n (.bool false) 44 9))
    (Obs.gval rfl rfl (fun a' w' E => E.new 45 10 (by kernel_rfl) rfl) (fun a' w' E => ob_move (.tmp 8) rfl (E.od 8))
    (Obs.gval rfl rfl (fun a' w' E => E.new 45 10 (by kernel_rfl) rfl) (fun a' w' E => ob_move (.tmp 10) rfl (E.od 10))
    (Obs.gval rfl rfl (fun a' w' E => E.new 45 10 (by kernel_rfl) rfl) (fun a' w' E => ob_binOp .neq 3 (.tmp 46) (.tmp 47) 3 rfl (E.n (.int .i64 ev) 46 11) (E.n (.int .i64 ev) 47 12) (by simp [go_sem]))
    (Obs.val (fun a' w' E => ob_pick (.tmp 45) (.const (.bool true)) (.tmp 48) rfl (E.n (.bool false) 45 10) (E.n (.bool false) 48 13))
    (Obs.val (fun a' w' E => ob_move (.tmp 49) rfl (E.n (.bool false) 49 14))
    (Obs.gval rfl rfl (fun a' w' E => E.new 50 15 (by kernel_rfl) rfl) (fun a' w' E => ob_move (.tmp 11) rfl (E.od 11))
    (Obs.gval rfl rfl (fun a' w' E => E.new 50 15 (by kernel_rfl) rfl) (fun a' w' E => ob_move (.tmp 13) rfl (E.od 13))
    (Obs.gval rfl rfl (fun a' w' E => E.new 50 15 (by kernel_rfl) rfl) (fun a' w' E => ob_binOp .neq 9 (.tmp 51) (.tmp 52) 9 rfl (E.n (.string c) 51 16) (E.n (.string c) 52 17) (by simp [go_sem]))
    (Obs.val (fun a' w' E => ob_pick (.tmp 50) (.const (.bool true)) (.tmp 53) rfl (E.n (.bool false) 50 15) (E.n (.bool false) 53 18))
    (Obs.val (fun a' w' E => ob_move (.tmp 54) rfl (E.n (.bool false) 54 19))
    (Obs.gval rfl rfl (fun a' w' E => E.new 55 20 (by kernel_rfl) rfl) (fun a' w' E => ob_move (.tmp 12) rfl (E.od 12))
    (Obs.gval rfl rfl (fun a' w' E => E.new 55 20 (by kernel_rfl) rfl) (fun a' w' E => ob_move (.tmp 14) rfl (E.od 14))
    (Obs.gval rfl rfl (fun a' w' E => E.new 55 20 (by kernel_rfl) rfl) (fun a' w' E => ob_binOp .neq 3 (.tmp 56) (.tmp 57) 3 rfl (E.n (.int .i64 gv) 56 21) (E.n (.int .i64 gv) 57 22) (by simp [go_sem]))
    (Obs.val (fun a' w' E => ob_pick (.tmp 55) (.const (.bool true)) (.tmp 58) rfl (E.n (.bool false) 55 20) (E.n (.bool false) 58 23))
    (Obs.val (fun a' w' E => ob_move (.tmp 59) rfl (E.n (.bool false) 59 24))
    (Obs.gval rfl rfl (fun a' w' E => E.new 60 25 (by kernel_rfl) rfl) (fun a' w' E => ob_move (.tmp 1) rfl (E.od 1))
    (Obs.gval rfl rfl (fun a' w' E => E.new 60 25 (by kernel_rfl) rfl) (fun a' w' E => ob_fcall 13 _ _ rfl (am1 (E.n (B n) 61 26)) (fc13 _ _) (h7.out w'))
    (Obs.gval rfl rfl (fun a' w' E => E.new 60 25 (by kernel_rfl) rfl) (fun a' w' E => ob_move (.tmp 1) rfl (E.od 1))
    (Obs.gval rfl rfl (fun a' w' E => E.new 60 25 (by kernel_rfl) rfl) (fun a' w' E => ob_fcall 14 _ _ rfl (am1 (E.n (B n) 63 28)) (fc14 _ _) (h8.out w'))
    (Obs.gval rfl rfl (fun a' w' E => E.new 60 25 (by kernel_rfl) rfl) (fun a' w' E => ob_binOp .neq 24 (.tmp 62) (.tmp 64) 24 rfl (E.n (U m) 62 27) (E.n (U m) 64 29) (by simp [go_sem, hE1]))
    (Obs.val (fun a' w' E => ob_pick (.tmp 60) (.const (.bool true)) (.tmp 65) rfl (E.n (.bool false) 60 25) (E.n (.bool false) 65 30))
    Obs.nil)))))))))))))))))))))))))))))))) ?_
  intro bs w5 aZ haZ F
  have eZ : aZ = (⟨#[(U k), (B n), (A9 px py pn), (PT w.heap.size), ud, (PT (w.heap.size + 1)), (.bool false), (PT g1_5), (.int .i64 ev), (PT g2_5), (.int .i64 ev), (.string c), (.int .i64 gv), (.string c), (.int .i64 gv), (.tuple #[(A9 ax ay an), (.int .i64 ev)]), (U k), (.tuple #[(A9 ax ay an), (.int .i64 ev)]), (A9 ax ay an), (.int .i64 ev), (.tuple #[(A9 ax ay an), (.int .i64 ev)]), (U k), (.tuple #[(A9 ax ay an), (.int .i64 ev)]), (A9 ax ay an), (.int .i64 ev), (.tuple #[(.string c), (.int .i64 gv)]), (U k), (.tuple #[(.string c), (.int .i64 gv)]), (.string c), (.int .i64 gv), (.tuple #[(.string c), (.int .i64 gv)]), (U k), (.tuple #[(.string c), (.int .i64 gv)]), (.string c), (.int .i64 gv), (U k), (.bool fb), (U k), (.bool fb), (.bool false), (.bool false), (A9 ax ay an), (A9 ax ay an), (.bool false), (.bool false), (.bool false), (.int .i64 ev), (.int .i64 ev), (.bool false), (.bool false), (.bool false), (.string c), (.string c), (.bool false), (.bool false), (.bool false), (.int .i64 gv), (.int .i64 gv), (.bool false), (.bool false), (.bool false), (B n), (U m), (B n), (U m), (.bool false), (.bool false), ud, ud, ud, ud, ud, ud, ud, ud, ud, ud, ud, ud, ud], []⟩ : Act) := haZ.trans (by kernel_rfl)
  subst eZ
  clear haZ
  replace RR : Hid (RB w w5 [(g2_5, (P9 ax ay an)), (g1_5, (P9 ax ay an)), (w.heap.size + 1, (P9 px py pn)), (w.heap.size, (Ar k))]) := ⟨F.bw, (Rc (F.row 3 rfl) (Rc (F.row 2 rfl) (Rc (F.row 1 rfl) (Rc (F.row 0 rfl) RowsAt.nil))))⟩
  clear F qT q0 q1 q2 q3
  go_upto_region 7 with fail
  obtain ⟨q3, q2, q1, q0, qT⟩ := RR.out.r.lts
  refine wp_told [(w.heap.size, (Ar k)), (w.heap.size + 1, (P9 px py pn)), (g1_5, (P9 ax ay an)), (g2_5, (P9 ax ay an))]
    [sV (A9 px py pn),
     sV (.bool false),
     sV (.bool true),
     sV (.bool true),
     sV ud,
     sV ud,
     sV ud,
     sV ud,
     sV ud,
     sV (.bool true),
     sV (.bool true),
     sV (.bool true),
     sV (.bool true),
     sV (.bool true)]
    RR.out.b (Rc (RR.out.at 3 rfl) (Rc (RR.out.at 2 rfl) (Rc (RR.out.at 1 rfl) (Rc (RR.out.at 0 rfl) RowsAt.nil)))) (StOk.of [] rfl StM.nil)
    (Obs.val (fun a' w' E => ob_la 26 (.tmp 5) (E.od 5) (E.row (g := w.heap.size + 1) (c := (P9 px py pn)) 1 rfl) Tryd.underlying26)
    (Obs.val (fun a' w' E => ob_fcall 15 _ _ rfl (am1 (E.n (A9 px py pn) 67 0)) (fc15 _ _) (hO.out w'))
    (Obs.val (fun a' w' E => ob_unOp .not 4 (.tmp 68) rfl (E.n (.bool false) 68 1) (by simp [go_sem]))
    (Obs.val (fun a' w' E => ob_move (.tmp 69) rfl (E.n (.bool true) 69 2))
    (Obs.skip rfl rfl (fun a' w' E => E.new 70 3 (by kernel_rfl) rfl) (by decide) 
    (Obs.skip rfl rfl (fun a' w' E => E.new 70 3 (by kernel_rfl) rfl) (by decide) 
    (Obs.skip rfl rfl (fun a' w' E => E.new 70 3 (by kernel_rfl) rfl) (by decide) 
    (Obs.skip rfl rfl (fun a' w' E => E.new 70 3 (by kernel_rfl) rfl) (by decide) 
    (Obs.skip rfl rfl (fun a' w' E => E.new 70 3 (by kernel_rfl) rfl) (by decide) 
    (Obs.val (fun a' w' E => ob_pick (.tmp 70) (.const (.bool true)) (.tmp 75) rfl (E.n (.bool true) 70 3) (evc a' (.bool true)))
    (Obs.val (fun a' w' E => ob_move (.tmp 76) rfl (E.n (.bool true) 76 9))
    (Obs.gval rfl rfl (fun a' w' E => E.new 77 10 (by kernel_rfl) rfl) (fun a' w' E => ob_fcall 18 _ _ rfl (am0) (fc18 _ _) (tbl hW HT.out E.bw w'))
    (Obs.val (fun a' w' E => ob_pick (.tmp 77) (.tmp 78) (.const (.bool false)) rfl (E.n (.bool true) 77 10) (E.n (.bool true) 78 11))
    (Obs.val (fun a' w' E => ob_assign (.tmp 79) rfl (E.n (.bool true) 79 12))
    Obs.nil)))))))))))))) ?_
  intro bs w6 aZ haZ F
  have eZ : aZ = (⟨#[(U k), (B n), (A9 px py pn), (PT w.heap.size), ud, (PT (w.heap.size + 1)), (.bool true), (PT g1_5), (.int .i64 ev), (PT g2_5), (.int .i64 ev), (.string c), (.int .i64 gv), (.string c), (.int .i64 gv), (.tuple #[(A9 ax ay an), (.int .i64 ev)]), (U k), (.tuple #[(A9 ax ay an), (.int .i64 ev)]), (A9 ax ay an), (.int .i64 ev), (.tuple #[(A9 ax ay an), (.int .i64 ev)]), (U k), (.tuple #[(A9 ax ay an), (.int .i64 ev)]), (A9 ax ay an), (.int .i64 ev), (.tuple #[(.string c), (.int .i64 gv)]), (U k), (.tuple #[(.string c), (.int .i64 gv)]), (.string c), (.int .i64 gv), (.tuple #[(.string c), (.int .i64 gv)]), (U k), (.tuple #[(.string c), (.int .i64 gv)]), (.string c), (.int .i64 gv), (U k), (.bool fb), (U k), (.bool fb), (.bool false), (.bool false), (A9 ax ay an), (A9 ax ay an), (.bool false), (.bool false), (.bool false), (.int .i64 ev), (.int .i64 ev), (.bool false), (.bool false), (.bool false), (.string c), (.string c), (.bool false), (.bool false), (.bool false), (.int .i64 gv), (.int .i64 gv), (.bool false), (.bool false), (.bool false), (B n), (U m), (B n), (U m), (.bool false), (.bool false), (A9 px py pn), (.bool false), (.bool true), (.bool true), ud, ud, ud, ud, ud, (.bool true), (.bool true), (.bool true), (.bool true)], []⟩ : Act) := haZ.trans (by kernel_rfl)
  subst eZ
  clear haZ
  replace RR : Hid (RB w w6 [(g2_5, (P9 ax ay an)), (g1_5, (P9 ax ay an)), (w.heap.size + 1, (P9 px py pn)), (w.heap.size, (Ar k))]) := ⟨F.bw, (Rc (F.row 3 rfl) (Rc (F.row 2 rfl) (Rc (F.row 1 rfl) (Rc (F.row 0 rfl) RowsAt.nil))))⟩
  clear F qT q0 q1 q2 q3
  go_wp2
  exact bodyPost_ret (v := (.bool true)) (by simp [results, Tryd.results3, go_sem]) rfl ⟨rfl, RR.out.b⟩
set_option maxRecDepth 100000 in
set_option maxHeartbeats 4000000 in
theorem tells_b (k n m ax ay px py : Nat) (an pn fb : Bool) (c r : ByteArray) (ev gv : Int) (h1 : Does 7 #[(U k)] (.tuple #[(A9 ax ay an), (.int .i64 ev)])) (h2 : Does 8 #[(U k)] (.tuple #[(A9 ax ay an), (.int .i64 ev)])) (h3 : DoesT 9 #[(U k)] (.tuple #[(.string c), (.int .i64 gv)])) (h4 : Does 10 #[(U k)] (.tuple #[(.string c), (.int .i64 gv)])) (h5 : Does 11 #[(U k)] (.bool fb)) (h6 : Does 12 #[(U k)] (.bool fb)) (h7 : Does 13 #[(B n)] (U m)) (h8 : Does 14 #[(B n)] (U m)) (hO : Does 15 #[(A9 px py pn)] (.bool true)) (hA1 : DoesT 16 #[(A9 px py pn)] (.string r)) (hA2 : Does 17 #[(A9 px py pn)] (.string r)) (hW : DoesT 18 #[] (.bool true)) (hE0 : ∀ w, (Op.equalIn 10000 26 (A9 ax ay an) (A9 ax ay an)).run Tryd.prog w = .ok true w) (hE1 : ∀ w, (Op.equalIn 10000 24 (U m) (U m)).run Tryd.prog w = .ok true w)
    (w : World) (ht : Tabs w ki) : Calls Tryd.prog 3 #[(U k), (B n), (A9 px py pn)] w fun e w' => e = .returned (.bool true) ∧ Below w.heap.size w w' := by
  have HT : Hid (Tabs w ki) := ht
  clear ht
  go_enter Tryd.func3, Tryd.ntmps3
  go_upto_region 1 with fail
  refine name_world _ ?_
  intro wF hF0
  have RR : Hid (RB w wF [(w.heap.size + 1, (P9 px py pn)), (w.heap.size, (Ar k))]) := by rw [hF0]; exact (rbN (rbN (rb0 w) (by simp)) (by simp))
  clear hF0
  obtain ⟨q1, q0, qT⟩ := RR.out.r.lts
  refine wp_told [(w.heap.size, (Ar k)), (w.heap.size + 1, (P9 px py pn))]
    [sV (U k),
     sV (.tuple #[(A9 ax ay an), (.int .i64 ev)]),
     sV (.tuple #[(A9 ax ay an), (.int .i64 ev)]),
     sV (A9 ax ay an),
     sV (.int .i64 ev),
     sA (fun g => .pointer (some ⟨g, 0, none⟩)) 6 Z9 (P9 ax ay an),
     sS 5,
     sV (.int .i64 ev)]
    RR.out.b (Rc (RR.out.at 1 rfl) (Rc (RR.out.at 0 rfl) RowsAt.nil)) (StOk.of [] rfl StM.nil)
    (Obs.val (fun a' w' E => ob_la 24 (.tmp 3) (E.od 3) (E.row (g := w.heap.size) (c := (Ar k)) 0 rfl) Tryd.underlying24)
    (Obs.val (fun a' w' E => ob_fcall 7 _ _ rfl (am1 (E.n (U k) 16 0)) (fc7 _ _) (h1.out w'))
    (Obs.val (fun a' w' E => ob_move (.tmp 17) rfl (E.n (.tuple #[(A9 ax ay an), (.int .i64 ev)]) 17 1))
    (Obs.val (fun a' w' E => ob_extract (.tmp 15) 0 rfl (E.n (.tuple #[(A9 ax ay an), (.int .i64 ev)]) 15 2) rfl)
    (Obs.val (fun a' w' E => ob_extract (.tmp 15) 1 rfl (E.n (.tuple #[(A9 ax ay an), (.int .i64 ev)]) 15 2) rfl)
    (Obs.alloc (fun a' w' E => ob_alloc (t := 26) (by simp [opAt, execOp, go_sem]))
    (Obs.sta rfl (fun a' w' g E ha hr => ob_sa 26 (.tmp 7) (.tmp 18) (ha 7 (by kernel_rfl)) (E.n (A9 ax ay an) 18 3) hr)
    (Obs.val (fun a' w' E => ob_assign (.tmp 19) rfl (E.n (.int .i64 ev) 19 4))
    Obs.nil)))))))) ?_
  intro bs w1 aZ haZ F
  have eZ : aZ = (⟨#[(U k), (B n), (A9 px py pn), (PT w.heap.size), ud, (PT (w.heap.size + 1)), (.bool false), (PT ((bs 5))), (.int .i64 ev), ud, ud, ud, ud, ud, ud, (.tuple #[(A9 ax ay an), (.int .i64 ev)]), (U k), (.tuple #[(A9 ax ay an), (.int .i64 ev)]), (A9 ax ay an), (.int .i64 ev), ud, ud, ud, ud, ud, ud, ud, ud, ud, ud, ud, ud, ud, ud, ud, ud, ud, ud, ud, ud, ud, ud, ud, ud, ud, ud, ud, ud, ud, ud, ud, ud, ud, ud, ud, ud, ud, ud, ud, ud, ud, ud, ud, ud, ud, ud, ud, ud, ud, ud, ud, ud, ud, ud, ud, ud, ud, ud, ud, ud], []⟩ : Act) := haZ.trans (by kernel_rfl)
  subst eZ
  clear haZ
  obtain ⟨h5, X5⟩ := F.al 5 rfl rfl
  replace RR : Hid (RB w w1 [((bs 5), (P9 ax ay an)), (w.heap.size + 1, (P9 px py pn)), (w.heap.size, (Ar k))]) := ⟨F.bw, (Rc X5 (Rc (F.row 1 rfl) (Rc (F.row 0 rfl) RowsAt.nil)))⟩
  generalize bs 5 = g1_5 at *
  have k1_5_0 := Nat.lt_of_lt_of_le q0 h5
  have k1_5_1 := Nat.lt_of_lt_of_le q1 h5
  clear F qT q0 q1 h5 X5
  clear wF
  go_upto_region 2 with fail
  obtain ⟨q2, q1, q0, qT⟩ := RR.out.r.lts
  refine wp_told [(w.heap.size, (Ar k)), (w.heap.size + 1, (P9 px py pn)), (g1_5, (P9 ax ay an))]
    [sV (U k),
     sV (.tuple #[(A9 ax ay an), (.int .i64 ev)]),
     sV (.tuple #[(A9 ax ay an), (.int .i64 ev)]),
     sV (A9 ax ay an),
     sV (.int .i64 ev),
     sA (fun g => .pointer (some ⟨g, 0, none⟩)) 6 Z9 (P9 ax ay an),
     sS 5,
     sV (.int .i64 ev)]
    RR.out.b (Rc (RR.out.at 2 rfl) (Rc (RR.out.at 1 rfl) (Rc (RR.out.at 0 rfl) RowsAt.nil))) (StOk.of [] rfl StM.nil)
    (Obs.val (fun a' w' E => ob_la 24 (.tmp 3) (E.od 3) (E.row (g := w.heap.size) (c := (Ar k)) 0 rfl) Tryd.underlying24)
    (Obs.val (fun a' w' E => ob_fcall 8 _ _ rfl (am1 (E.n (U k) 21 0)) (fc8 _ _) (h2.out w'))
    (Obs.val (fun a' w' E => ob_move (.tmp 22) rfl (E.n (.tuple #[(A9 ax ay an), (.int .i64 ev)]) 22 1))
    (Obs.val (fun a' w' E => ob_extract (.tmp 20) 0 rfl (E.n (.tuple #[(A9 ax ay an), (.int .i64 ev)]) 20 2) rfl)
    (Obs.val (fun a' w' E => ob_extract (.tmp 20) 1 rfl (E.n (.tuple #[(A9 ax ay an), (.int .i64 ev)]) 20 2) rfl)
    (Obs.alloc (fun a' w' E => ob_alloc (t := 26) (by simp [opAt, execOp, go_sem]))
    (Obs.sta rfl (fun a' w' g E ha hr => ob_sa 26 (.tmp 9) (.tmp 23) (ha 9 (by kernel_rfl)) (E.n (A9 ax ay an) 23 3) hr)
    (Obs.val (fun a' w' E => ob_assign (.tmp 24) rfl (E.n (.int .i64 ev) 24 4))
    Obs.nil)))))))) ?_
  intro bs w2 aZ haZ F
  have eZ : aZ = (⟨#[(U k), (B n), (A9 px py pn), (PT w.heap.size), ud, (PT (w.heap.size + 1)), (.bool false), (PT g1_5), (.int .i64 ev), (PT ((bs 5))), (.int .i64 ev), ud, ud, ud, ud, (.tuple #[(A9 ax ay an), (.int .i64 ev)]), (U k), (.tuple #[(A9 ax ay an), (.int .i64 ev)]), (A9 ax ay an), (.int .i64 ev), (.tuple #[(A9 ax ay an), (.int .i64 ev)]), (U k), (.tuple #[(A9 ax ay an), (.int .i64 ev)]), (A9 ax ay an), (.int .i64 ev), ud, ud, ud, ud, ud, ud, ud, ud, ud, ud, ud, ud, ud, ud, ud, ud, ud, ud, ud, ud, ud, ud, ud, ud, ud, ud, ud, ud, ud, ud, ud, ud, ud, ud, ud, ud, ud, ud, ud, ud, ud, ud, ud, ud, ud, ud, ud, ud, ud, ud, ud, ud, ud, ud, ud], []⟩ : Act) := haZ.trans (by kernel_rfl)
  subst eZ
  clear haZ
  obtain ⟨h5, X5⟩ := F.al 5 rfl rfl
  replace RR : Hid (RB w w2 [((bs 5), (P9 ax ay an)), (g1_5, (P9 ax ay an)), (w.heap.size + 1, (P9 px py pn)), (w.heap.size, (Ar k))]) := ⟨F.bw, (Rc X5 (Rc (F.row 2 rfl) (Rc (F.row 1 rfl) (Rc (F.row 0 rfl) RowsAt.nil))))⟩
  generalize bs 5 = g2_5 at *
  have k2_5_0 := Nat.lt_of_lt_of_le q0 h5
  have k2_5_1 := Nat.lt_of_lt_of_le q1 h5
  have k2_5_2 := Nat.lt_of_lt_of_le q2 h5
  clear F qT q0 q1 q2 h5 X5
  go_upto_region 3 with fail
  obtain ⟨q3, q2, q1, q0, qT⟩ := RR.out.r.lts
  refine wp_told [(w.heap.size, (Ar k)), (w.heap.size + 1, (P9 px py pn)), (g1_5, (P9 ax ay an)), (g2_5, (P9 ax ay an))]
    [sV (U k),
     sV (.tuple #[(.string c), (.int .i64 gv)]),
     sV (.tuple #[(.string c), (.int .i64 gv)]),
     sV (.string c),
     sV (.int .i64 gv),
     sV (.string c),
     sV (.int .i64 gv)]
    RR.out.b (Rc (RR.out.at 3 rfl) (Rc (RR.out.at 2 rfl) (Rc (RR.out.at 1 rfl) (Rc (RR.out.at 0 rfl) RowsAt.nil)))) (StOk.of [] rfl StM.nil)
    (Obs.val (fun a' w' E => ob_la 24 (.tmp 3) (E.od 3) (E.row (g := w.heap.size) (c := (Ar k)) 0 rfl) Tryd.underlying24)
    (Obs.val (fun a' w' E => ob_fcall 9 _ _ rfl (am1 (E.n (U k) 26 0)) (fc9 _ _) (tbl h3 HT.out E.bw w'))
    (Obs.val (fun a' w' E => ob_move (.tmp 27) rfl (E.n (.tuple #[(.string c), (.int .i64 gv)]) 27 1))
    (Obs.val (fun a' w' E => ob_extract (.tmp 25) 0 rfl (E.n (.tuple #[(.string c), (.int .i64 gv)]) 25 2) rfl)
    (Obs.val (fun a' w' E => ob_extract (.tmp 25) 1 rfl (E.n (.tuple #[(.string c), (.int .i64 gv)]) 25 2) rfl)
    (Obs.val (fun a' w' E => ob_assign (.tmp 28) rfl (E.n (.string c) 28 3))
    (Obs.val (fun a' w' E => ob_assign (.tmp 29) rfl (E.n (.int .i64 gv) 29 4))
    Obs.nil))))))) ?_
  intro bs w3 aZ haZ F
  have eZ : aZ = (⟨#[(U k), (B n), (A9 px py pn), (PT w.heap.size), ud, (PT (w.heap.size + 1)), (.bool false), (PT g1_5), (.int .i64 ev), (PT g2_5), (.int .i64 ev), (.string c), (.int .i64 gv), ud, ud, (.tuple #[(A9 ax ay an), (.int .i64 ev)]), (U k), (.tuple #[(A9 ax ay an), (.int .i64 ev)]), (A9 ax ay an), (.int .i64 ev), (.tuple #[(A9 ax ay an), (.int .i64 ev)]), (U k), (.tuple #[(A9 ax ay an), (.int .i64 ev)]), (A9 ax ay an), (.int .i64 ev), (.tuple #[(.string c), (.int .i64 gv)]), (U k), (.tuple #[(.string c), (.int .i64 gv)]), (.string c), (.int .i64 gv), ud, ud, ud, ud, ud, ud, ud, ud, ud, ud, ud, ud, ud, ud, ud, ud, ud, ud, ud, ud, ud, ud, ud, ud, ud, ud, ud, ud, ud, ud, ud, ud, ud, ud, ud, ud, ud, ud, ud, ud, ud, ud, ud, ud, ud, ud, ud, ud, ud, ud], []⟩ : Act) := haZ.trans (by kernel_rfl)
  subst eZ
  clear haZ
  replace RR : Hid (RB w w3 [(g2_5, (P9 ax ay an)), (g1_5, (P9 ax ay an)), (w.heap.size + 1, (P9 px py pn)), (w.heap.size, (Ar k))]) := ⟨F.bw, (Rc (F.row 3 rfl) (Rc (F.row 2 rfl) (Rc (F.row 1 rfl) (Rc (F.row 0 rfl) RowsAt.nil))))⟩
  clear F qT q0 q1 q2 q3
  go_upto_region 4 with fail
  obtain ⟨q3, q2, q1, q0, qT⟩ := RR.out.r.lts
  refine wp_told [(w.heap.size, (Ar k)), (w.heap.size + 1, (P9 px py pn)), (g1_5, (P9 ax ay an)), (g2_5, (P9 ax ay an))]
    [sV (U k),
     sV (.tuple #[(.string c), (.int .i64 gv)]),
     sV (.tuple #[(.string c), (.int .i64 gv)]),
     sV (.string c),
     sV (.int .i64 gv),
     sV (.string c),
     sV (.int .i64 gv)]
    RR.out.b (Rc (RR.out.at 3 rfl) (Rc (RR.out.at 2 rfl) (Rc (RR.out.at 1 rfl) (Rc (RR.out.at 0 rfl) RowsAt.nil)))) (StOk.of [] rfl StM.nil)
    (Obs.val (fun a' w' E => ob_la 24 (.tmp 3) (E.od 3) (E.row (g := w.heap.size) (c := (Ar k)) 0 rfl) Tryd.underlying24)
    (Obs.val (fun a' w' E => ob_fcall 10 _ _ rfl (am1 (E.n (U k) 31 0)) (fc10 _ _) (h4.out w'))
    (Obs.val (fun a' w' E => ob_move (.tmp 32) rfl (E.n (.tuple #[(.string c), (.int .i64 gv)]) 32 1))
    (Obs.val (fun a' w' E => ob_extract (.tmp 30) 0 rfl (E.n (.tuple #[(.string c), (.int .i64 gv)]) 30 2) rfl)
    (Obs.val (fun a' w' E => ob_extract (.tmp 30) 1 rfl (E.n (.tuple #[(.string c), (.int .i64 gv)]) 30 2) rfl)
    (Obs.val (fun a' w' E => ob_assign (.tmp 33) rfl (E.n (.string c) 33 3))
    (Obs.val (fun a' w' E => ob_assign (.tmp 34) rfl (E.n (.int .i64 gv) 34 4))
    Obs.nil))))))) ?_
  intro bs w4 aZ haZ F
  have eZ : aZ = (⟨#[(U k), (B n), (A9 px py pn), (PT w.heap.size), ud, (PT (w.heap.size + 1)), (.bool false), (PT g1_5), (.int .i64 ev), (PT g2_5), (.int .i64 ev), (.string c), (.int .i64 gv), (.string c), (.int .i64 gv), (.tuple #[(A9 ax ay an), (.int .i64 ev)]), (U k), (.tuple #[(A9 ax ay an), (.int .i64 ev)]), (A9 ax ay an), (.int .i64 ev), (.tuple #[(A9 ax ay an), (.int .i64 ev)]), (U k), (.tuple #[(A9 ax ay an), (.int .i64 ev)]), (A9 ax ay an), (.int .i64 ev), (.tuple #[(.string c), (.int .i64 gv)]), (U k), (.tuple #[(.string c), (.int .i64 gv)]), (.string c), (.int .i64 gv), (.tuple #[(.string c), (.int .i64 gv)]), (U k), (.tuple #[(.string c), (.int .i64 gv)]), (.string c), (.int .i64 gv), ud, ud, ud, ud, ud, ud, ud, ud, ud, ud, ud, ud, ud, ud, ud, ud, ud, ud, ud, ud, ud, ud, ud, ud, ud, ud, ud, ud, ud, ud, ud, ud, ud, ud, ud, ud, ud, ud, ud, ud, ud, ud, ud, ud, ud], []⟩ : Act) := haZ.trans (by kernel_rfl)
  subst eZ
  clear haZ
  replace RR : Hid (RB w w4 [(g2_5, (P9 ax ay an)), (g1_5, (P9 ax ay an)), (w.heap.size + 1, (P9 px py pn)), (w.heap.size, (Ar k))]) := ⟨F.bw, (Rc (F.row 3 rfl) (Rc (F.row 2 rfl) (Rc (F.row 1 rfl) (Rc (F.row 0 rfl) RowsAt.nil))))⟩
  clear F qT q0 q1 q2 q3
  go_upto_region 5 with fail
  obtain ⟨q3, q2, q1, q0, qT⟩ := RR.out.r.lts
  refine wp_told [(w.heap.size, (Ar k)), (w.heap.size + 1, (P9 px py pn)), (g1_5, (P9 ax ay an)), (g2_5, (P9 ax ay an))]
    [sV (U k),
     sV (.bool fb),
     sV (U k),
     sV (.bool fb),
     sV (.bool false),
     sV (.bool false),
     sV (A9 ax ay an),
     sV (A9 ax ay an),
     sV (.bool false),
     sV (.bool false),
     sV (.bool false),
     sV (.int .i64 ev),
     sV (.int .i64 ev),
     sV (.bool false),
     sV (.bool false),
     sV (.bool false),
     sV (.string c),
     sV (.string c),
     sV (.bool false),
     sV (.bool false),
     sV (.bool false),
     sV (.int .i64 gv),
     sV (.int .i64 gv),
     sV (.bool false),
     sV (.bool false),
     sV (.bool false),
     sV (B n),
     sV (U m),
     sV (B n),
     sV (U m),
     sV (.bool false),
     sV (.bool false)]
    RR.out.b (Rc (RR.out.at 3 rfl) (Rc (RR.out.at 2 rfl) (Rc (RR.out.at 1 rfl) (Rc (RR.out.at 0 rfl) RowsAt.nil)))) (StOk.of [] rfl StM.nil)
    (Obs.val (fun a' w' E => ob_la 24 (.tmp 3) (E.od 3) (E.row (g := w.heap.size) (c := (Ar k)) 0 rfl) Tryd.underlying24)
    (Obs.val (fun a' w' E => ob_fcall 11 _ _ rfl (am1 (E.n (U k) 35 0)) (fc11 _ _) (h5.out w'))
    (Obs.val (fun a' w' E => ob_la 24 (.tmp 3) (E.od 3) (E.row (g := w.heap.size) (c := (Ar k)) 0 rfl) Tryd.underlying24)
    (Obs.val (fun a' w' E => ob_fcall 12 _ _ rfl (am1 (E.n (U k) 37 2)) (fc12 _ _) (h6.out w'))
    (Obs.val (fun a' w' E => ob_binOp .neq 4 (.tmp 36) (.tmp 38) 4 rfl (E.n (.bool fb) 36 1) (E.n (.bool fb) 38 3) (by simp [go_sem]))
    (Obs.val (fun a' w' E => ob_move (.tmp 39) rfl (E.n (.bool false) 39 4))
    (Obs.gval rfl rfl (fun a' w' E => E.new 40 5 (by kernel_rfl) rfl) (fun a' w' E => ob_la 26 (.tmp 7) (E.od 7) (E.row (g := g1_5) (c := (P9 ax ay an)) 2 rfl) Tryd.underlying26)
    (Obs.gval rfl rfl (fun a' w' E => E.new 40 5 (by kernel_rfl) rfl) (fun a' w' E => ob_la 26 (.tmp 9) (E.od 9) (E.row (g := g2_5) (c := (P9 ax ay an)) 3 rfl) Tryd.underlying26)
    (Obs.gval rfl rfl (fun a' w' E => E.new 40 5 (by kernel_rfl) rfl) (fun a' w' E => ob_binOp .neq 26 (.tmp 41) (.tmp 42) 26 rfl (E.n (A9 ax ay an) 41 6) (E.n (A9 ax ay an) 42 7) (by simp [go_sem, hE0]))
    (Obs.val (fun a' w' E => ob_pick (.tmp 40) (.const (.bool true)) (.tmp 43) rfl (E.n (.bool false) 40 5) (E.n (.bool false) 43 8))
    (Obs.val (fun a' w' E => ob_move (.tmp 44) rfl (E.n (.bool false) 44 9))
    (Obs.gval rfl rfl (fun a' w' E => E.new 45 10 (by kernel_rfl) rfl) (fun a' w' E => ob_move (.tmp 8) rfl (E.od 8))
    (Obs.gval rfl rfl (fun a' w' E => E.new 45 10 (by kernel_rfl) rfl) (fun a' w' E => ob_move (.tmp 10) rfl (E.od 10))
    (Obs.gval rfl rfl (fun a' w' E => E.new 45 10 (by kernel_rfl) rfl) (fun a' w' E => ob_binOp .neq 3 (.tmp 46) (.tmp 47) 3 rfl (E.n (.int .i64 ev) 46 11) (E.n (.int .i64 ev) 47 12) (by simp [go_sem]))
    (Obs.val (fun a' w' E => ob_pick (.tmp 45) (.const (.bool true)) (.tmp 48) rfl (E.n (.bool false) 45 10) (E.n (.bool false) 48 13))
    (Obs.val (fun a' w' E => ob_move (.tmp 49) rfl (E.n (.bool false) 49 14))
    (Obs.gval rfl rfl (fun a' w' E => E.new 50 15 (by kernel_rfl) rfl) (fun a' w' E => ob_move (.tmp 11) rfl (E.od 11))
    (Obs.gval rfl rfl (fun a' w' E => E.new 50 15 (by kernel_rfl) rfl) (fun a' w' E => ob_move (.tmp 13) rfl (E.od 13))
    (Obs.gval rfl rfl (fun a' w' E => E.new 50 15 (by kernel_rfl) rfl) (fun a' w' E => ob_binOp .neq 9 (.tmp 51) (.tmp 52) 9 rfl (E.n (.string c) 51 16) (E.n (.string c) 52 17) (by simp [go_sem]))
    (Obs.val (fun a' w' E => ob_pick (.tmp 50) (.const (.bool true)) (.tmp 53) rfl (E.n (.bool false) 50 15) (E.n (.bool false) 53 18))
    (Obs.val (fun a' w' E => ob_move (.tmp 54) rfl (E.n (.bool false) 54 19))
    (Obs.gval rfl rfl (fun a' w' E => E.new 55 20 (by kernel_rfl) rfl) (fun a' w' E => ob_move (.tmp 12) rfl (E.od 12))
    (Obs.gval rfl rfl (fun a' w' E => E.new 55 20 (by kernel_rfl) rfl) (fun a' w' E => ob_move (.tmp 14) rfl (E.od 14))
    (Obs.gval rfl rfl (fun a' w' E => E.new 55 20 (by kernel_rfl) rfl) (fun a' w' E => ob_binOp .neq 3 (.tmp 56) (.tmp 57) 3 rfl (E.n (.int .i64 gv) 56 21) (E.n (.int .i64 gv) 57 22) (by simp [go_sem]))
    (Obs.val (fun a' w' E => ob_pick (.tmp 55) (.const (.bool true)) (.tmp 58) rfl (E.n (.bool false) 55 20) (E.n (.bool false) 58 23))
    (Obs.val (fun a' w' E => ob_move (.tmp 59) rfl (E.n (.bool false) 59 24))
    (Obs.gval rfl rfl (fun a' w' E => E.new 60 25 (by kernel_rfl) rfl) (fun a' w' E => ob_move (.tmp 1) rfl (E.od 1))
    (Obs.gval rfl rfl (fun a' w' E => E.new 60 25 (by kernel_rfl) rfl) (fun a' w' E => ob_fcall 13 _ _ rfl (am1 (E.n (B n) 61 26)) (fc13 _ _) (h7.out w'))
    (Obs.gval rfl rfl (fun a' w' E => E.new 60 25 (by kernel_rfl) rfl) (fun a' w' E => ob_move (.tmp 1) rfl (E.od 1))
    (Obs.gval rfl rfl (fun a' w' E => E.new 60 25 (by kernel_rfl) rfl) (fun a' w' E => ob_fcall 14 _ _ rfl (am1 (E.n (B n) 63 28)) (fc14 _ _) (h8.out w'))
    (Obs.gval rfl rfl (fun a' w' E => E.new 60 25 (by kernel_rfl) rfl) (fun a' w' E => ob_binOp .neq 24 (.tmp 62) (.tmp 64) 24 rfl (E.n (U m) 62 27) (E.n (U m) 64 29) (by simp [go_sem, hE1]))
    (Obs.val (fun a' w' E => ob_pick (.tmp 60) (.const (.bool true)) (.tmp 65) rfl (E.n (.bool false) 60 25) (E.n (.bool false) 65 30))
    Obs.nil)))))))))))))))))))))))))))))))) ?_
  intro bs w5 aZ haZ F
  have eZ : aZ = (⟨#[(U k), (B n), (A9 px py pn), (PT w.heap.size), ud, (PT (w.heap.size + 1)), (.bool false), (PT g1_5), (.int .i64 ev), (PT g2_5), (.int .i64 ev), (.string c), (.int .i64 gv), (.string c), (.int .i64 gv), (.tuple #[(A9 ax ay an), (.int .i64 ev)]), (U k), (.tuple #[(A9 ax ay an), (.int .i64 ev)]), (A9 ax ay an), (.int .i64 ev), (.tuple #[(A9 ax ay an), (.int .i64 ev)]), (U k), (.tuple #[(A9 ax ay an), (.int .i64 ev)]), (A9 ax ay an), (.int .i64 ev), (.tuple #[(.string c), (.int .i64 gv)]), (U k), (.tuple #[(.string c), (.int .i64 gv)]), (.string c), (.int .i64 gv), (.tuple #[(.string c), (.int .i64 gv)]), (U k), (.tuple #[(.string c), (.int .i64 gv)]), (.string c), (.int .i64 gv), (U k), (.bool fb), (U k), (.bool fb), (.bool false), (.bool false), (A9 ax ay an), (A9 ax ay an), (.bool false), (.bool false), (.bool false), (.int .i64 ev), (.int .i64 ev), (.bool false), (.bool false), (.bool false), (.string c), (.string c), (.bool false), (.bool false), (.bool false), (.int .i64 gv), (.int .i64 gv), (.bool false), (.bool false), (.bool false), (B n), (U m), (B n), (U m), (.bool false), (.bool false), ud, ud, ud, ud, ud, ud, ud, ud, ud, ud, ud, ud, ud], []⟩ : Act) := haZ.trans (by kernel_rfl)
  subst eZ
  clear haZ
  replace RR : Hid (RB w w5 [(g2_5, (P9 ax ay an)), (g1_5, (P9 ax ay an)), (w.heap.size + 1, (P9 px py pn)), (w.heap.size, (Ar k))]) := ⟨F.bw, (Rc (F.row 3 rfl) (Rc (F.row 2 rfl) (Rc (F.row 1 rfl) (Rc (F.row 0 rfl) RowsAt.nil))))⟩
  clear F qT q0 q1 q2 q3
  go_upto_region 7 with fail
  obtain ⟨q3, q2, q1, q0, qT⟩ := RR.out.r.lts
  refine wp_told [(w.heap.size, (Ar k)), (w.heap.size + 1, (P9 px py pn)), (g1_5, (P9 ax ay an)), (g2_5, (P9 ax ay an))]
    [sV (A9 px py pn),
     sV (.bool true),
     sV (.bool false),
     sV (.bool false),
     sV (A9 px py pn),
     sV (.string r),
     sV (A9 px py pn),
     sV (.string r),
     sV (.bool true),
     sV (.bool true),
     sV (.bool true),
     sV (.bool true),
     sV (.bool true),
     sV (.bool true)]
    RR.out.b (Rc (RR.out.at 3 rfl) (Rc (RR.out.at 2 rfl) (Rc (RR.out.at 1 rfl) (Rc (RR.out.at 0 rfl) RowsAt.nil)))) (StOk.of [] rfl StM.nil)
    (Obs.val (fun a' w' E => ob_la 26 (.tmp 5) (E.od 5) (E.row (g := w.heap.size + 1) (c := (P9 px py pn)) 1 rfl) Tryd.underlying26)
    (Obs.val (fun a' w' E => ob_fcall 15 _ _ rfl (am1 (E.n (A9 px py pn) 67 0)) (fc15 _ _) (hO.out w'))
    (Obs.val (fun a' w' E => ob_unOp .not 4 (.tmp 68) rfl (E.n (.bool true) 68 1) (by simp [go_sem]))
    (Obs.val (fun a' w' E => ob_move (.tmp 69) rfl (E.n (.bool false) 69 2))
    (Obs.gval rfl rfl (fun a' w' E => E.new 70 3 (by kernel_rfl) rfl) (fun a' w' E => ob_la 26 (.tmp 5) (E.od 5) (E.row (g := w.heap.size + 1) (c := (P9 px py pn)) 1 rfl) Tryd.underlying26)
    (Obs.gval rfl rfl (fun a' w' E => E.new 70 3 (by kernel_rfl) rfl) (fun a' w' E => ob_fcall 16 _ _ rfl (am1 (E.n (A9 px py pn) 71 4)) (fc16 _ _) (tbl hA1 HT.out E.bw w'))
    (Obs.gval rfl rfl (fun a' w' E => E.new 70 3 (by kernel_rfl) rfl) (fun a' w' E => ob_la 26 (.tmp 5) (E.od 5) (E.row (g := w.heap.size + 1) (c := (P9 px py pn)) 1 rfl) Tryd.underlying26)
    (Obs.gval rfl rfl (fun a' w' E => E.new 70 3 (by kernel_rfl) rfl) (fun a' w' E => ob_fcall 17 _ _ rfl (am1 (E.n (A9 px py pn) 73 6)) (fc17 _ _) (hA2.out w'))
    (Obs.gval rfl rfl (fun a' w' E => E.new 70 3 (by kernel_rfl) rfl) (fun a' w' E => ob_binOp .eql 9 (.tmp 72) (.tmp 74) 9 rfl (E.n (.string r) 72 5) (E.n (.string r) 74 7) (by simp [go_sem]))
    (Obs.val (fun a' w' E => ob_pick (.tmp 70) (.const (.bool true)) (.tmp 75) rfl (E.n (.bool false) 70 3) (E.n (.bool true) 75 8))
    (Obs.val (fun a' w' E => ob_move (.tmp 76) rfl (E.n (.bool true) 76 9))
    (Obs.gval rfl rfl (fun a' w' E => E.new 77 10 (by kernel_rfl) rfl) (fun a' w' E => ob_fcall 18 _ _ rfl (am0) (fc18 _ _) (tbl hW HT.out E.bw w'))
    (Obs.val (fun a' w' E => ob_pick (.tmp 77) (.tmp 78) (.const (.bool false)) rfl (E.n (.bool true) 77 10) (E.n (.bool true) 78 11))
    (Obs.val (fun a' w' E => ob_assign (.tmp 79) rfl (E.n (.bool true) 79 12))
    Obs.nil)))))))))))))) ?_
  intro bs w6 aZ haZ F
  have eZ : aZ = (⟨#[(U k), (B n), (A9 px py pn), (PT w.heap.size), ud, (PT (w.heap.size + 1)), (.bool true), (PT g1_5), (.int .i64 ev), (PT g2_5), (.int .i64 ev), (.string c), (.int .i64 gv), (.string c), (.int .i64 gv), (.tuple #[(A9 ax ay an), (.int .i64 ev)]), (U k), (.tuple #[(A9 ax ay an), (.int .i64 ev)]), (A9 ax ay an), (.int .i64 ev), (.tuple #[(A9 ax ay an), (.int .i64 ev)]), (U k), (.tuple #[(A9 ax ay an), (.int .i64 ev)]), (A9 ax ay an), (.int .i64 ev), (.tuple #[(.string c), (.int .i64 gv)]), (U k), (.tuple #[(.string c), (.int .i64 gv)]), (.string c), (.int .i64 gv), (.tuple #[(.string c), (.int .i64 gv)]), (U k), (.tuple #[(.string c), (.int .i64 gv)]), (.string c), (.int .i64 gv), (U k), (.bool fb), (U k), (.bool fb), (.bool false), (.bool false), (A9 ax ay an), (A9 ax ay an), (.bool false), (.bool false), (.bool false), (.int .i64 ev), (.int .i64 ev), (.bool false), (.bool false), (.bool false), (.string c), (.string c), (.bool false), (.bool false), (.bool false), (.int .i64 gv), (.int .i64 gv), (.bool false), (.bool false), (.bool false), (B n), (U m), (B n), (U m), (.bool false), (.bool false), (A9 px py pn), (.bool true), (.bool false), (.bool false), (A9 px py pn), (.string r), (A9 px py pn), (.string r), (.bool true), (.bool true), (.bool true), (.bool true), (.bool true)], []⟩ : Act) := haZ.trans (by kernel_rfl)
  subst eZ
  clear haZ
  replace RR : Hid (RB w w6 [(g2_5, (P9 ax ay an)), (g1_5, (P9 ax ay an)), (w.heap.size + 1, (P9 px py pn)), (w.heap.size, (Ar k))]) := ⟨F.bw, (Rc (F.row 3 rfl) (Rc (F.row 2 rfl) (Rc (F.row 1 rfl) (Rc (F.row 0 rfl) RowsAt.nil))))⟩
  clear F qT q0 q1 q2 q3
  go_wp2
  exact bodyPost_ret (v := (.bool true)) (by simp [results, Tryd.results3, go_sem]) rfl ⟨rfl, RR.out.b⟩
end Go.Proofs.YtpdoonofipcbeaaDoor
