/- Raw walks of key, over letters. Raw walks of the document's key, over letters. Raw walks of awake and of KeySmall, over letters. -/
import Derived.Test.YtpdoonofipcbeaaDoorXqMC
import Derived.Test.YtpdoonofipcbeaaDoorXqQc
import Derived.Test.YtpdoonofipcbeaaDoorXqEq
import Derived.Test.YtpdoonofipcbeaaDoorXqMJ
import Derived.WalkSmall
import Derived.Deep.Cut
import Derived.Deep.Light
import Derived.Test.YtpdoonofipcbeaaDoorXqHr
namespace Go.Proofs.YtpdoonofipcbeaaDoor
open Go.RowKit Go.Sort
set_option linter.unusedVariables false
set_option maxRecDepth 100000 in
set_option maxHeartbeats 4000000 in
theorem above1_raw (k b bd : Nat) (z : Int) (hC : Does 54 #[(U k), (U bd)] (.int .i64 z)) 
    (w : World) (hB : HasRow w b (Ar bd)) : Calls Tryd.prog 53 #[(U k), (PT b)] w fun e w' => e = .returned (.bool (decide (0 < z))) ∧ Below w.heap.size w w' := by
  go_enter Tryd.func53, Tryd.ntmps53
  have RR : Hid (RB w w [(b, Ar bd)]) := ⟨Below.refl _ _, Rc hB RowsAt.nil⟩
  clear hB
  go_upto_region 1 with fail
  refine name_world _ ?_
  intro wF hF0
  replace RR : Hid (RB w wF [(w.heap.size, (Ar k)), (b, (Ar bd))]) := by rw [hF0]; exact (rbN RR (by simp))
  clear hF0
  obtain ⟨q1, q0, qT⟩ := RR.out.r.lts
  refine wp_told [(b, (Ar bd)), (w.heap.size, (Ar k))]
    [sV (U k),
     sV (U bd),
     sV (.int .i64 z),
     sV (.bool (decide (0 < z))),
     sV (.bool (decide (0 < z)))]
    RR.out.b (Rc (RR.out.at 1 rfl) (Rc (RR.out.at 0 rfl) RowsAt.nil)) (StOk.of [] rfl StM.nil)
    (Obs.val (fun a' w' E => ob_la 24 (.tmp 2) (E.od 2) (E.row (g := w.heap.size) (c := (Ar k)) 1 rfl) Tryd.underlying24)
    (Obs.val (fun a' w' E => ob_la 24 (.tmp 1) (E.od 1) (E.row (g := b) (c := (Ar bd)) 0 rfl) Tryd.underlying24)
    (Obs.val (fun a' w' E => ob_fcall 54 _ _ rfl (am2 (E.n (U k) 4 0) (E.n (U bd) 5 1)) (fc54 _ _) (hC.out w'))
    (Obs.val (fun a' w' E => ob_binOp .gtr 3 (.tmp 6) (.const (.int .i64 0)) 3 rfl (E.n (.int .i64 z) 6 2) (evc a' (.int .i64 0)) (by simp [go_sem]))
    (Obs.val (fun a' w' E => ob_assign (.tmp 7) rfl (E.n (.bool (decide (0 < z))) 7 3))
    Obs.nil))))) ?_
  intro bs w1 aZ haZ F
  have eZ : aZ = (⟨#[(U k), (PT b), (PT w.heap.size), (.bool (decide (0 < z))), (U k), (U bd), (.int .i64 z), (.bool (decide (0 < z)))], []⟩ : Act) := haZ.trans (by kernel_rfl)
  subst eZ
  clear haZ
  replace RR : Hid (RB w w1 [(w.heap.size, (Ar k)), (b, (Ar bd))]) := ⟨F.bw, (Rc (F.row 1 rfl) (Rc (F.row 0 rfl) RowsAt.nil))⟩
  clear F qT q0 q1
  clear wF
  go_wp2
  exact bodyPost_ret (v := (.bool (decide (0 < z)))) (by simp [results, Tryd.results53, go_sem]) rfl ⟨rfl, RR.out.b⟩
set_option maxRecDepth 100000 in
set_option maxHeartbeats 4000000 in
theorem below1_raw (k b bd : Nat) (z : Int) (hC : Does 54 #[(U k), (U bd)] (.int .i64 z)) 
    (w : World) (hB : HasRow w b (Ar bd)) : Calls Tryd.prog 55 #[(U k), (PT b)] w fun e w' => e = .returned (.bool (decide (z < 0))) ∧ Below w.heap.size w w' := by
  go_enter Tryd.func55, Tryd.ntmps55
  have RR : Hid (RB w w [(b, Ar bd)]) := ⟨Below.refl _ _, Rc hB RowsAt.nil⟩
  clear hB
  go_upto_region 1 with fail
  refine name_world _ ?_
  intro wF hF0
  replace RR : Hid (RB w wF [(w.heap.size, (Ar k)), (b, (Ar bd))]) := by rw [hF0]; exact (rbN RR (by simp))
  clear hF0
  obtain ⟨q1, q0, qT⟩ := RR.out.r.lts
  refine wp_told [(b, (Ar bd)), (w.heap.size, (Ar k))]
    [sV (U k),
     sV (U bd),
     sV (.int .i64 z),
     sV (.bool (decide (z < 0))),
     sV (.bool (decide (z < 0)))]
    RR.out.b (Rc (RR.out.at 1 rfl) (Rc (RR.out.at 0 rfl) RowsAt.nil)) (StOk.of [] rfl StM.nil)
    (Obs.val (fun a' w' E => ob_la 24 (.tmp 2) (E.od 2) (E.row (g := w.heap.size) (c := (Ar k)) 1 rfl) Tryd.underlying24)
    (Obs.val (fun a' w' E => ob_la 24 (.tmp 1) (E.od 1) (E.row (g := b) (c := (Ar bd)) 0 rfl) Tryd.underlying24)
    (Obs.val (fun a' w' E => ob_fcall 54 _ _ rfl (am2 (E.n (U k) 4 0) (E.n (U bd) 5 1)) (fc54 _ _) (hC.out w'))
    (Obs.val (fun a' w' E => ob_binOp .lss 3 (.tmp 6) (.const (.int .i64 0)) 3 rfl (E.n (.int .i64 z) 6 2) (evc a' (.int .i64 0)) (by simp [go_sem]))
    (Obs.val (fun a' w' E => ob_assign (.tmp 7) rfl (E.n (.bool (decide (z < 0))) 7 3))
    Obs.nil))))) ?_
  intro bs w1 aZ haZ F
  have eZ : aZ = (⟨#[(U k), (PT b), (PT w.heap.size), (.bool (decide (z < 0))), (U k), (U bd), (.int .i64 z), (.bool (decide (z < 0)))], []⟩ : Act) := haZ.trans (by kernel_rfl)
  subst eZ
  clear haZ
  replace RR : Hid (RB w w1 [(w.heap.size, (Ar k)), (b, (Ar bd))]) := ⟨F.bw, (Rc (F.row 1 rfl) (Rc (F.row 0 rfl) RowsAt.nil))⟩
  clear F qT q0 q1
  clear wF
  go_wp2
  exact bodyPost_ret (v := (.bool (decide (z < 0)))) (by simp [results, Tryd.results55, go_sem]) rfl ⟨rfl, RR.out.b⟩
set_option maxRecDepth 100000 in
set_option maxHeartbeats 4000000 in
theorem small_raw (n u o r : Nat) (ov : Bool) (hn : Does 31 #[(B n)] (U u)) (h1 : Does 31 #[(.int .u64 1)] (U o)) (hA : Does 34 #[(U u), (U o)] (.tuple #[(U r), (.bool ov)])) 
    (w : World) : Calls Tryd.prog 13 #[(B n)] w fun e w' => e = .returned (U r) ∧ Below w.heap.size w w' := by
  go_enter Tryd.func13, Tryd.ntmps13
  go_upto_region 1 with fail
  refine name_world _ ?_
  intro wF hF0
  have RR : Hid (RB w wF [(w.heap.size, Zr)]) := by rw [hF0]; exact (rbN (rb0 w) (by simp))
  clear hF0
  obtain ⟨q0, qT⟩ := RR.out.r.lts
  refine wp_told [(w.heap.size, Zr)]
    [sV (B n),
     sV (U u),
     sV (U o),
     sV (.tuple #[(U r), (.bool ov)]),
     sV (.tuple #[(U r), (.bool ov)]),
     sV (U r),
     sV (.bool ov),
     sA (fun g => .pointer (some ⟨g, 0, none⟩)) 8 Zr (Ar r),
     sS 7,
     sV (.bool ov)]
    RR.out.b (Rc (RR.out.at 0 rfl) RowsAt.nil) (StOk.of [] rfl StM.nil)
    (Obs.val (fun a' w' E => ob_move (.tmp 0) rfl (E.od 0))
    (Obs.val (fun a' w' E => ob_fcall 31 _ _ rfl (am1 (E.n (B n) 6 0)) (fc31 _ _) (hn.out w'))
    (Obs.val (fun a' w' E => ob_fcall 31 _ _ rfl (am1 (evc a' (.int .u64 1))) (fc31 _ _) (h1.out w'))
    (Obs.val (fun a' w' E => ob_fcall 34 _ _ rfl (am2 (E.n (U u) 7 1) (E.n (U o) 8 2)) (fc34 _ _) (hA.out w'))
    (Obs.val (fun a' w' E => ob_move (.tmp 9) rfl (E.n (.tuple #[(U r), (.bool ov)]) 9 3))
    (Obs.val (fun a' w' E => ob_extract (.tmp 5) 0 rfl (E.n (.tuple #[(U r), (.bool ov)]) 5 4) rfl)
    (Obs.val (fun a' w' E => ob_extract (.tmp 5) 1 rfl (E.n (.tuple #[(U r), (.bool ov)]) 5 4) rfl)
    (Obs.alloc (fun a' w' E => ob_alloc (t := 24) (by simp [opAt, execOp, go_sem]))
    (Obs.sta rfl (fun a' w' g E ha hr => ob_sa 24 (.tmp 3) (.tmp 10) (ha 3 (by kernel_rfl)) (E.n (U r) 10 5) hr)
    (Obs.val (fun a' w' E => ob_assign (.tmp 11) rfl (E.n (.bool ov) 11 6))
    Obs.nil)))))))))) ?_
  intro bs w1 aZ haZ F
  have eZ : aZ = (⟨#[(B n), ud, (PT w.heap.size), (PT ((bs 7))), (.bool ov), (.tuple #[(U r), (.bool ov)]), (B n), (U u), (U o), (.tuple #[(U r), (.bool ov)]), (U r), (.bool ov), ud], []⟩ : Act) := haZ.trans (by kernel_rfl)
  subst eZ
  clear haZ
  obtain ⟨h7, X7⟩ := F.al 7 rfl rfl
  replace RR : Hid (RB w w1 [((bs 7), (Ar r)), (w.heap.size, Zr)]) := ⟨F.bw, (Rc X7 (Rc (F.row 0 rfl) RowsAt.nil))⟩
  generalize bs 7 = g1_7 at *
  have k1_7_0 := Nat.lt_of_lt_of_le q0 h7
  clear F qT q0 h7 X7
  clear wF
  go_upto_region 2 with fail
  obtain ⟨q1, q0, qT⟩ := RR.out.r.lts
  refine wp_told [(g1_7, (Ar r))]
    [sV (U r),
     sK (w.heap.size) Zr (Ar r)]
    RR.out.b (Rc (RR.out.at 0 rfl) RowsAt.nil) (StOk.of [(w.heap.size, Zr)] rfl (StM.cons (RR.out.at 1 rfl) (by omega) (Apart.cons (by omega) Apart.nil) Apart.nil StM.nil))
    (Obs.val (fun a' w' E => ob_la 24 (.tmp 3) (E.od 3) (E.row (g := g1_7) (c := (Ar r)) 0 rfl) Tryd.underlying24)
    (Obs.stk (fun a' w' E hr => ob_sa 24 (.tmp 2) (.tmp 12) (E.od 2) (E.n (U r) 12 0) hr)
    Obs.nil)) ?_
  intro bs w2 aZ haZ F
  have eZ : aZ = (⟨#[(B n), ud, (PT w.heap.size), (PT g1_7), (.bool ov), (.tuple #[(U r), (.bool ov)]), (B n), (U u), (U o), (.tuple #[(U r), (.bool ov)]), (U r), (.bool ov), (U r)], []⟩ : Act) := haZ.trans (by kernel_rfl)
  subst eZ
  clear haZ
  replace RR : Hid (RB w w2 [(g1_7, (Ar r)), (w.heap.size, (Ar r))]) := ⟨F.bw, (Rc (F.row 0 rfl) (Rc (F.sk 1 rfl) RowsAt.nil))⟩
  clear F qT q0 q1
  go_wp2
  exact bodyPost_ret (v := (U r)) (resA (p := 2) (ty := 24) rfl (g := w.heap.size) rfl (RR.out.at 1 rfl) Tryd.underlying24 rfl (by kernel_rfl)) rfl ⟨rfl, RR.out.b⟩
set_option maxRecDepth 100000 in
set_option maxHeartbeats 4000000 in
theorem public_no (k : Nat) (hF : Does 11 #[(U k)] (.bool false)) 
    (w : World) : Calls Tryd.prog 7 #[(U k)] w fun e w' => e = .returned (.tuple #[(A9 0 0 false), (.int .i64 5)]) ∧ Below w.heap.size w w' := by
  go_enter Tryd.func7, Tryd.ntmps7
  go_upto_region 1 with fail
  refine name_world _ ?_
  intro wF hF0
  have RR : Hid (RB w wF [(w.heap.size + 1, Z9), (w.heap.size, (Ar k))]) := by rw [hF0]; exact (rbN (rbN (rb0 w) (by simp)) (by simp))
  clear hF0
  obtain ⟨q1, q0, qT⟩ := RR.out.r.lts
  refine wp_told [(w.heap.size, (Ar k)), (w.heap.size + 1, Z9)]
    [sV (U k),
     sV (.bool false),
     sV (.bool true)]
    RR.out.b (Rc (RR.out.at 1 rfl) (Rc (RR.out.at 0 rfl) RowsAt.nil)) (StOk.of [] rfl StM.nil)
    (Obs.val (fun a' w' E => ob_la 24 (.tmp 1) (E.od 1) (E.row (g := w.heap.size) (c := (Ar k)) 0 rfl) Tryd.underlying24)
    (Obs.val (fun a' w' E => ob_fcall 11 _ _ rfl (am1 (E.n (U k) 4 0)) (fc11 _ _) (hF.out w'))
    (Obs.val (fun a' w' E => ob_unOp .not 4 (.tmp 5) rfl (E.n (.bool false) 5 1) (by simp [go_sem]))
    Obs.nil))) ?_
  intro bs w1 aZ haZ F
  have eZ : aZ = (⟨#[(U k), (PT w.heap.size), (PT (w.heap.size + 1)), (.int .i64 0), (U k), (.bool false), (.bool true), ud, ud, ud, ud], []⟩ : Act) := haZ.trans (by kernel_rfl)
  subst eZ
  clear haZ
  replace RR : Hid (RB w w1 [(w.heap.size + 1, Z9), (w.heap.size, (Ar k))]) := ⟨F.bw, (Rc (F.row 1 rfl) (Rc (F.row 0 rfl) RowsAt.nil))⟩
  clear F qT q0 q1
  clear wF
  go_upto_region 2 with fail
  obtain ⟨q1, q0, qT⟩ := RR.out.r.lts
  refine wp_told [(w.heap.size, (Ar k))]
    [sV (A9 0 0 false),
     sK (w.heap.size + 1) Z9 (P9 0 0 false),
     sV (.int .i64 5)]
    RR.out.b (Rc (RR.out.at 1 rfl) RowsAt.nil) (StOk.of [(w.heap.size + 1, Z9)] rfl (StM.cons (RR.out.at 0 rfl) (by omega) (Apart.cons (by omega) Apart.nil) Apart.nil StM.nil))
    (Obs.val (fun a' w' E => ob_build 26 _ rfl (pm0) (bd26_ w'))
    (Obs.stk (fun a' w' E hr => ob_sa 26 (.tmp 2) (.tmp 7) (E.od 2) (E.n (A9 0 0 false) 7 0) hr)
    (Obs.val (fun a' w' E => ob_assign (.const (.int .i64 5)) rfl (evc a' (.int .i64 5)))
    Obs.nil))) ?_
  intro bs w2 aZ haZ F
  have eZ : aZ = (⟨#[(U k), (PT w.heap.size), (PT (w.heap.size + 1)), (.int .i64 5), (U k), (.bool false), (.bool true), (A9 0 0 false), ud, ud, ud], []⟩ : Act) := haZ.trans (by kernel_rfl)
  subst eZ
  clear haZ
  replace RR : Hid (RB w w2 [(w.heap.size + 1, (P9 0 0 false)), (w.heap.size, (Ar k))]) := ⟨F.bw, (Rc (F.sk 1 rfl) (Rc (F.row 0 rfl) RowsAt.nil))⟩
  clear F qT q0 q1
  go_wp2
  exact bodyPost_ret (v := (.tuple #[(A9 0 0 false), (.int .i64 5)])) (resAT (p := 2) (q := 3) (ty := 26) rfl (g := w.heap.size + 1) rfl rfl (RR.out.at 0 rfl) Tryd.underlying26 rfl (by kernel_rfl)) rfl ⟨rfl, RR.out.b⟩
set_option maxRecDepth 100000 in
set_option maxHeartbeats 4000000 in
theorem public_yes (k gx gy px py : Nat) (gn pn : Bool) (hF : Does 11 #[(U k)] (.bool true)) (hB : Does 26 #[] (A9 gx gy gn)) (hM : Does 25 #[(U k), (A9 gx gy gn)] (A9 px py pn)) 
    (w : World) : Calls Tryd.prog 7 #[(U k)] w fun e w' => e = .returned (.tuple #[(A9 px py pn), (.int .i64 0)]) ∧ Below w.heap.size w w' := by
  go_enter Tryd.func7, Tryd.ntmps7
  go_upto_region 1 with fail
  refine name_world _ ?_
  intro wF hF0
  have RR : Hid (RB w wF [(w.heap.size + 1, Z9), (w.heap.size, (Ar k))]) := by rw [hF0]; exact (rbN (rbN (rb0 w) (by simp)) (by simp))
  clear hF0
  obtain ⟨q1, q0, qT⟩ := RR.out.r.lts
  refine wp_told [(w.heap.size, (Ar k)), (w.heap.size + 1, Z9)]
    [sV (U k),
     sV (.bool true),
     sV (.bool false)]
    RR.out.b (Rc (RR.out.at 1 rfl) (Rc (RR.out.at 0 rfl) RowsAt.nil)) (StOk.of [] rfl StM.nil)
    (Obs.val (fun a' w' E => ob_la 24 (.tmp 1) (E.od 1) (E.row (g := w.heap.size) (c := (Ar k)) 0 rfl) Tryd.underlying24)
    (Obs.val (fun a' w' E => ob_fcall 11 _ _ rfl (am1 (E.n (U k) 4 0)) (fc11 _ _) (hF.out w'))
    (Obs.val (fun a' w' E => ob_unOp .not 4 (.tmp 5) rfl (E.n (.bool true) 5 1) (by simp [go_sem]))
    Obs.nil))) ?_
  intro bs w1 aZ haZ F
  have eZ : aZ = (⟨#[(U k), (PT w.heap.size), (PT (w.heap.size + 1)), (.int .i64 0), (U k), (.bool true), (.bool false), ud, ud, ud, ud], []⟩ : Act) := haZ.trans (by kernel_rfl)
  subst eZ
  clear haZ
  replace RR : Hid (RB w w1 [(w.heap.size + 1, Z9), (w.heap.size, (Ar k))]) := ⟨F.bw, (Rc (F.row 1 rfl) (Rc (F.row 0 rfl) RowsAt.nil))⟩
  clear F qT q0 q1
  clear wF
  go_upto_region 3 with fail
  obtain ⟨q1, q0, qT⟩ := RR.out.r.lts
  refine wp_told [(w.heap.size, (Ar k))]
    [sV (U k),
     sV (A9 gx gy gn),
     sV (A9 px py pn),
     sK (w.heap.size + 1) Z9 (P9 px py pn),
     sV (.int .i64 0)]
    RR.out.b (Rc (RR.out.at 1 rfl) RowsAt.nil) (StOk.of [(w.heap.size + 1, Z9)] rfl (StM.cons (RR.out.at 0 rfl) (by omega) (Apart.cons (by omega) Apart.nil) Apart.nil StM.nil))
    (Obs.val (fun a' w' E => ob_la 24 (.tmp 1) (E.od 1) (E.row (g := w.heap.size) (c := (Ar k)) 0 rfl) Tryd.underlying24)
    (Obs.val (fun a' w' E => ob_fcall 26 _ _ rfl (am0) (fc26 _ _) (hB.out w'))
    (Obs.val (fun a' w' E => ob_fcall 25 _ _ rfl (am2 (E.n (U k) 8 0) (E.n (A9 gx gy gn) 9 1)) (fc25 _ _) (hM.out w'))
    (Obs.stk (fun a' w' E hr => ob_sa 26 (.tmp 2) (.tmp 10) (E.od 2) (E.n (A9 px py pn) 10 2) hr)
    (Obs.val (fun a' w' E => ob_assign (.const (.int .i64 0)) rfl (evc a' (.int .i64 0)))
    Obs.nil))))) ?_
  intro bs w2 aZ haZ F
  have eZ : aZ = (⟨#[(U k), (PT w.heap.size), (PT (w.heap.size + 1)), (.int .i64 0), (U k), (.bool true), (.bool false), ud, (U k), (A9 gx gy gn), (A9 px py pn)], []⟩ : Act) := haZ.trans (by kernel_rfl)
  subst eZ
  clear haZ
  replace RR : Hid (RB w w2 [(w.heap.size + 1, (P9 px py pn)), (w.heap.size, (Ar k))]) := ⟨F.bw, (Rc (F.sk 3 rfl) (Rc (F.row 0 rfl) RowsAt.nil))⟩
  clear F qT q0 q1
  go_wp2
  exact bodyPost_ret (v := (.tuple #[(A9 px py pn), (.int .i64 0)])) (resAT (p := 2) (q := 3) (ty := 26) rfl (g := w.heap.size + 1) rfl rfl (RR.out.at 0 rfl) Tryd.underlying26 rfl (by kernel_rfl)) rfl ⟨rfl, RR.out.b⟩
set_option maxRecDepth 100000 in
set_option maxHeartbeats 4000000 in
theorem addr_none (x y : Nat)  
    (w : World) (ht : Tabs w ki) : Calls Tryd.prog 16 #[(A9 x y true)] w fun e w' => e = .returned (.string { data := #[] }) ∧ Below w.heap.size w w' := by
  have HT : Hid (Tabs w ki) := ht
  clear ht
  go_enter Tryd.func16, Tryd.ntmps16
  go_upto_region 1 with fail
  refine name_world _ ?_
  intro wF hF0
  have RR : Hid (RB w wF [(w.heap.size, (P9 x y true))]) := by rw [hF0]; exact (rbN (rb0 w) (by simp))
  clear hF0
  obtain ⟨q0, qT⟩ := RR.out.r.lts
  refine wp_told [(w.heap.size, (P9 x y true))]
    [sV (PO w.heap.size 8),
     sV (.bool true)]
    RR.out.b (Rc (RR.out.at 0 rfl) RowsAt.nil) (StOk.of [] rfl StM.nil)
    (Obs.val (fun a' w' E => ob_fieldAddr 26 (.tmp 1) 2 rfl (E.od 1) (fa26_2 _ _ w'))
    (Obs.val (fun a' w' E => ob_load1 4 (.tmp 4) rfl (E.n (PO w.heap.size 8) 4 0) (E.row (g := w.heap.size) (c := (P9 x y true)) 0 rfl) Tryd.underlying4 rfl rfl)
    Obs.nil)) ?_
  intro bs w1 aZ haZ F
  have eZ : aZ = (⟨#[(A9 x y true), (PT w.heap.size), (.string { data := #[] }), ud, (PO w.heap.size 8), (.bool true), ud, ud, ud, ud, ud, ud, ud, ud, ud, ud, ud, ud, ud], []⟩ : Act) := haZ.trans (by kernel_rfl)
  subst eZ
  clear haZ
  replace RR : Hid (RB w w1 [(w.heap.size, (P9 x y true))]) := ⟨F.bw, (Rc (F.row 0 rfl) RowsAt.nil)⟩
  clear F qT q0
  clear wF
  go_upto_region 2 with fail
  obtain ⟨q0, qT⟩ := RR.out.r.lts
  refine wp_told [(w.heap.size, (P9 x y true))]
    [sV (.string { data := #[] })]
    RR.out.b (Rc (RR.out.at 0 rfl) RowsAt.nil) (StOk.of [] rfl StM.nil)
    (Obs.val (fun a' w' E => ob_assign (.const (.string { data := #[] })) rfl (evc a' (.string { data := #[] })))
    Obs.nil) ?_
  intro bs w2 aZ haZ F
  have eZ : aZ = (⟨#[(A9 x y true), (PT w.heap.size), (.string { data := #[] }), ud, (PO w.heap.size 8), (.bool true), ud, ud, ud, ud, ud, ud, ud, ud, ud, ud, ud, ud, ud], []⟩ : Act) := haZ.trans (by kernel_rfl)
  subst eZ
  clear haZ
  replace RR : Hid (RB w w2 [(w.heap.size, (P9 x y true))]) := ⟨F.bw, (Rc (F.row 0 rfl) RowsAt.nil)⟩
  clear F qT q0
  go_wp2
  exact bodyPost_ret (v := (.string { data := #[] })) (by simp [results, Tryd.results16, go_sem]) rfl ⟨rfl, RR.out.b⟩
set_option maxRecDepth 100000 in
set_option maxHeartbeats 4000000 in
theorem addr_some (x y : Nat) (a b d r : ByteArray) (hab : a.size + b.size ≤ 9223372036854775807) (hw : IntKind.i64.wrap 12 = 12) (hl : (d.size : Int) = 32) (hsl : ∀ w, (Instr.slice 9 (.string d) (some (.int .i64 12)) none none).run Tryd.prog w = .ok (.string r) w) (h1 : Does 39 #[(U x)] (.string a)) (h2 : Does 39 #[(U y)] (.string b)) (hS : DoesT 38 #[(.string ((a ++ b)))] (.string d)) 
    (w : World) (ht : Tabs w ki) : Calls Tryd.prog 16 #[(A9 x y false)] w fun e w' => e = .returned (.string r) ∧ Below w.heap.size w w' := by
  have HT : Hid (Tabs w ki) := ht
  clear ht
  go_enter Tryd.func16, Tryd.ntmps16
  go_upto_region 1 with fail
  refine name_world _ ?_
  intro wF hF0
  have RR : Hid (RB w wF [(w.heap.size, (P9 x y false))]) := by rw [hF0]; exact (rbN (rb0 w) (by simp))
  clear hF0
  obtain ⟨q0, qT⟩ := RR.out.r.lts
  refine wp_told [(w.heap.size, (P9 x y false))]
    [sV (PO w.heap.size 8),
     sV (.bool false)]
    RR.out.b (Rc (RR.out.at 0 rfl) RowsAt.nil) (StOk.of [] rfl StM.nil)
    (Obs.val (fun a' w' E => ob_fieldAddr 26 (.tmp 1) 2 rfl (E.od 1) (fa26_2 _ _ w'))
    (Obs.val (fun a' w' E => ob_load1 4 (.tmp 4) rfl (E.n (PO w.heap.size 8) 4 0) (E.row (g := w.heap.size) (c := (P9 x y false)) 0 rfl) Tryd.underlying4 rfl rfl)
    Obs.nil)) ?_
  intro bs w1 aZ haZ F
  have eZ : aZ = (⟨#[(A9 x y false), (PT w.heap.size), (.string { data := #[] }), ud, (PO w.heap.size 8), (.bool false), ud, ud, ud, ud, ud, ud, ud, ud, ud, ud, ud, ud, ud], []⟩ : Act) := haZ.trans (by kernel_rfl)
  subst eZ
  clear haZ
  replace RR : Hid (RB w w1 [(w.heap.size, (P9 x y false))]) := ⟨F.bw, (Rc (F.row 0 rfl) RowsAt.nil)⟩
  clear F qT q0
  clear wF
  go_upto_region 3 with fail
  obtain ⟨q0, qT⟩ := RR.out.r.lts
  refine wp_told [(w.heap.size, (P9 x y false))]
    [sV (PT w.heap.size),
     sV (U x),
     sV (.string a),
     sV (PO w.heap.size 4),
     sV (U y),
     sV (.string b),
     sV (.string ((a ++ b))),
     sV (.string d),
     sV (.string d)]
    RR.out.b (Rc (RR.out.at 0 rfl) RowsAt.nil) (StOk.of [] rfl StM.nil)
    (Obs.val (fun a' w' E => ob_fieldAddr 26 (.tmp 1) 0 rfl (E.od 1) (fa26_0 _ _ w'))
    (Obs.val (fun a' w' E => ob_la 24 (.tmp 6) (E.n (PT w.heap.size) 6 0) (E.row (g := w.heap.size) (c := (P9 x y false)) 0 rfl) Tryd.underlying24)
    (Obs.val (fun a' w' E => ob_fcall 39 _ _ rfl (am1 (E.n (U x) 7 1)) (fc39 _ _) (h1.out w'))
    (Obs.val (fun a' w' E => ob_fieldAddr 26 (.tmp 1) 1 rfl (E.od 1) (fa26_1 _ _ w'))
    (Obs.val (fun a' w' E => ob_la 24 (.tmp 9) (E.n (PO w.heap.size 4) 9 3) (E.row (g := w.heap.size) (c := (P9 x y false)) 0 rfl) Tryd.underlying24)
    (Obs.val (fun a' w' E => ob_fcall 39 _ _ rfl (am1 (E.n (U y) 10 4)) (fc39 _ _) (h2.out w'))
    (Obs.val (fun a' w' E => ob_binOp .add 9 (.tmp 8) (.tmp 11) 9 rfl (E.n (.string a) 8 2) (E.n (.string b) 11 5) (by simp [go_sem, hab]))
    (Obs.val (fun a' w' E => ob_fcall 38 _ _ rfl (am1 (E.n (.string ((a ++ b))) 12 6)) (fc38 _ _) (tbl hS HT.out E.bw w'))
    (Obs.val (fun a' w' E => ob_assign (.tmp 13) rfl (E.n (.string d) 13 7))
    Obs.nil))))))))) ?_
  intro bs w2 aZ haZ F
  have eZ : aZ = (⟨#[(A9 x y false), (PT w.heap.size), (.string { data := #[] }), (.string d), (PO w.heap.size 8), (.bool false), (PT w.heap.size), (U x), (.string a), (PO w.heap.size 4), (U y), (.string b), (.string ((a ++ b))), (.string d), ud, ud, ud, ud, ud], []⟩ : Act) := haZ.trans (by kernel_rfl)
  subst eZ
  clear haZ
  replace RR : Hid (RB w w2 [(w.heap.size, (P9 x y false))]) := ⟨F.bw, (Rc (F.row 0 rfl) RowsAt.nil)⟩
  clear F qT q0
  go_upto_region 4 with fail
  obtain ⟨q0, qT⟩ := RR.out.r.lts
  refine wp_told [(w.heap.size, (P9 x y false))]
    [sV (.string d),
     sV (.string d),
     sV (.int .i64 32),
     sV (.int .i64 12),
     sV (.string r),
     sV (.string r)]
    RR.out.b (Rc (RR.out.at 0 rfl) RowsAt.nil) (StOk.of [] rfl StM.nil)
    (Obs.val (fun a' w' E => ob_move (.tmp 3) rfl (E.od 3))
    (Obs.val (fun a' w' E => ob_move (.tmp 3) rfl (E.od 3))
    (Obs.val (fun a' w' E => ob_val (by simp [opAt, execOp, go_sem, ev (show a'.eval (.tmp 15) = (.string d) from (E.n (.string d) 15 1)), hl]))
    (Obs.val (fun a' w' E => ob_binOp .sub 3 (.tmp 16) (.const (.int .i64 20)) 3 rfl (E.n (.int .i64 32) 16 2) (evc a' (.int .i64 20)) (by simp [go_sem, hw]))
    (Obs.val (fun a' w' E => ob_val (by simp [opAt, execOp, go_sem, ev (show a'.eval (.tmp 14) = (.string d) from (E.n (.string d) 14 0)), ev (show a'.eval (.tmp 17) = (.int .i64 12) from (E.n (.int .i64 12) 17 3)), hsl]))
    (Obs.val (fun a' w' E => ob_assign (.tmp 18) rfl (E.n (.string r) 18 4))
    Obs.nil)))))) ?_
  intro bs w3 aZ haZ F
  have eZ : aZ = (⟨#[(A9 x y false), (PT w.heap.size), (.string r), (.string d), (PO w.heap.size 8), (.bool false), (PT w.heap.size), (U x), (.string a), (PO w.heap.size 4), (U y), (.string b), (.string ((a ++ b))), (.string d), (.string d), (.string d), (.int .i64 32), (.int .i64 12), (.string r)], []⟩ : Act) := haZ.trans (by kernel_rfl)
  subst eZ
  clear haZ
  replace RR : Hid (RB w w3 [(w.heap.size, (P9 x y false))]) := ⟨F.bw, (Rc (F.row 0 rfl) RowsAt.nil)⟩
  clear F qT q0
  go_wp2
  exact bodyPost_ret (v := (.string r)) (by simp [results, Tryd.results16, go_sem]) rfl ⟨rfl, RR.out.b⟩
set_option maxRecDepth 100000 in
set_option maxHeartbeats 4000000 in
theorem who_no (k : Nat) (hP : Does 7 #[(U k)] (.tuple #[(A9 0 0 false), (.int .i64 5)])) 
    (w : World) (ht : Tabs w ki) : Calls Tryd.prog 9 #[(U k)] w fun e w' => e = .returned (.tuple #[(.string { data := #[] }), (.int .i64 5)]) ∧ Below w.heap.size w w' := by
  have HT : Hid (Tabs w ki) := ht
  clear ht
  go_enter Tryd.func9, Tryd.ntmps9
  go_upto_region 1 with fail
  refine name_world _ ?_
  intro wF hF0
  have RR : Hid (RB w wF [(w.heap.size, (Ar k))]) := by rw [hF0]; exact (rbN (rb0 w) (by simp))
  clear hF0
  obtain ⟨q0, qT⟩ := RR.out.r.lts
  refine wp_told [(w.heap.size, (Ar k))]
    [sV (U k),
     sV (.tuple #[(A9 0 0 false), (.int .i64 5)]),
     sV (.tuple #[(A9 0 0 false), (.int .i64 5)]),
     sV (A9 0 0 false),
     sV (.int .i64 5),
     sA (fun g => .pointer (some ⟨g, 0, none⟩)) 6 Z9 (P9 0 0 false),
     sS 5,
     sV (.int .i64 5)]
    RR.out.b (Rc (RR.out.at 0 rfl) RowsAt.nil) (StOk.of [] rfl StM.nil)
    (Obs.val (fun a' w' E => ob_la 24 (.tmp 1) (E.od 1) (E.row (g := w.heap.size) (c := (Ar k)) 0 rfl) Tryd.underlying24)
    (Obs.val (fun a' w' E => ob_fcall 7 _ _ rfl (am1 (E.n (U k) 7 0)) (fc7 _ _) (hP.out w'))
    (Obs.val (fun a' w' E => ob_move (.tmp 8) rfl (E.n (.tuple #[(A9 0 0 false), (.int .i64 5)]) 8 1))
    (Obs.val (fun a' w' E => ob_extract (.tmp 6) 0 rfl (E.n (.tuple #[(A9 0 0 false), (.int .i64 5)]) 6 2) rfl)
    (Obs.val (fun a' w' E => ob_extract (.tmp 6) 1 rfl (E.n (.tuple #[(A9 0 0 false), (.int .i64 5)]) 6 2) rfl)
    (Obs.alloc (fun a' w' E => ob_alloc (t := 26) (by simp [opAt, execOp, go_sem]))
    (Obs.sta rfl (fun a' w' g E ha hr => ob_sa 26 (.tmp 4) (.tmp 9) (ha 4 (by kernel_rfl)) (E.n (A9 0 0 false) 9 3) hr)
    (Obs.val (fun a' w' E => ob_assign (.tmp 10) rfl (E.n (.int .i64 5) 10 4))
    Obs.nil)))))))) ?_
  intro bs w1 aZ haZ F
  have eZ : aZ = (⟨#[(U k), (PT w.heap.size), (.string { data := #[] }), (.int .i64 0), (PT ((bs 5))), (.int .i64 5), (.tuple #[(A9 0 0 false), (.int .i64 5)]), (U k), (.tuple #[(A9 0 0 false), (.int .i64 5)]), (A9 0 0 false), (.int .i64 5), ud, ud, ud, ud, ud], []⟩ : Act) := haZ.trans (by kernel_rfl)
  subst eZ
  clear haZ
  obtain ⟨h5, X5⟩ := F.al 5 rfl rfl
  replace RR : Hid (RB w w1 [((bs 5), (P9 0 0 false)), (w.heap.size, (Ar k))]) := ⟨F.bw, (Rc X5 (Rc (F.row 0 rfl) RowsAt.nil))⟩
  generalize bs 5 = g1_5 at *
  have k1_5_0 := Nat.lt_of_lt_of_le q0 h5
  clear F qT q0 h5 X5
  clear wF
  go_upto_region 2 with fail
  obtain ⟨q1, q0, qT⟩ := RR.out.r.lts
  refine wp_told [(w.heap.size, (Ar k)), (g1_5, (P9 0 0 false))]
    [sV (.int .i64 5),
     sV (.bool true)]
    RR.out.b (Rc (RR.out.at 1 rfl) (Rc (RR.out.at 0 rfl) RowsAt.nil)) (StOk.of [] rfl StM.nil)
    (Obs.val (fun a' w' E => ob_move (.tmp 5) rfl (E.od 5))
    (Obs.val (fun a' w' E => ob_binOp .neq 27 (.tmp 11) (.const (.int .i64 0)) 27 rfl (E.n (.int .i64 5) 11 0) (evc a' (.int .i64 0)) (by simp [go_sem]))
    Obs.nil)) ?_
  intro bs w2 aZ haZ F
  have eZ : aZ = (⟨#[(U k), (PT w.heap.size), (.string { data := #[] }), (.int .i64 0), (PT g1_5), (.int .i64 5), (.tuple #[(A9 0 0 false), (.int .i64 5)]), (U k), (.tuple #[(A9 0 0 false), (.int .i64 5)]), (A9 0 0 false), (.int .i64 5), (.int .i64 5), (.bool true), ud, ud, ud], []⟩ : Act) := haZ.trans (by kernel_rfl)
  subst eZ
  clear haZ
  replace RR : Hid (RB w w2 [(g1_5, (P9 0 0 false)), (w.heap.size, (Ar k))]) := ⟨F.bw, (Rc (F.row 1 rfl) (Rc (F.row 0 rfl) RowsAt.nil))⟩
  clear F qT q0 q1
  go_upto_region 3 with fail
  obtain ⟨q1, q0, qT⟩ := RR.out.r.lts
  refine wp_told [(w.heap.size, (Ar k)), (g1_5, (P9 0 0 false))]
    [sV (.int .i64 5),
     sV (.string { data := #[] }),
     sV (.int .i64 5)]
    RR.out.b (Rc (RR.out.at 1 rfl) (Rc (RR.out.at 0 rfl) RowsAt.nil)) (StOk.of [] rfl StM.nil)
    (Obs.val (fun a' w' E => ob_move (.tmp 5) rfl (E.od 5))
    (Obs.val (fun a' w' E => ob_assign (.const (.string { data := #[] })) rfl (evc a' (.string { data := #[] })))
    (Obs.val (fun a' w' E => ob_assign (.tmp 13) rfl (E.n (.int .i64 5) 13 0))
    Obs.nil))) ?_
  intro bs w3 aZ haZ F
  have eZ : aZ = (⟨#[(U k), (PT w.heap.size), (.string { data := #[] }), (.int .i64 5), (PT g1_5), (.int .i64 5), (.tuple #[(A9 0 0 false), (.int .i64 5)]), (U k), (.tuple #[(A9 0 0 false), (.int .i64 5)]), (A9 0 0 false), (.int .i64 5), (.int .i64 5), (.bool true), (.int .i64 5), ud, ud], []⟩ : Act) := haZ.trans (by kernel_rfl)
  subst eZ
  clear haZ
  replace RR : Hid (RB w w3 [(g1_5, (P9 0 0 false)), (w.heap.size, (Ar k))]) := ⟨F.bw, (Rc (F.row 1 rfl) (Rc (F.row 0 rfl) RowsAt.nil))⟩
  clear F qT q0 q1
  go_wp2
  exact bodyPost_ret (v := (.tuple #[(.string { data := #[] }), (.int .i64 5)])) (by simp [results, Tryd.results9, go_sem]) rfl ⟨rfl, RR.out.b⟩
set_option maxRecDepth 100000 in
set_option maxHeartbeats 4000000 in
theorem who_yes (k px py : Nat) (pn : Bool) (s : ByteArray) (hP : Does 7 #[(U k)] (.tuple #[(A9 px py pn), (.int .i64 0)])) (hA : DoesT 16 #[(A9 px py pn)] (.string s)) 
    (w : World) (ht : Tabs w ki) : Calls Tryd.prog 9 #[(U k)] w fun e w' => e = .returned (.tuple #[(.string s), (.int .i64 0)]) ∧ Below w.heap.size w w' := by
  have HT : Hid (Tabs w ki) := ht
  clear ht
  go_enter Tryd.func9, Tryd.ntmps9
  go_upto_region 1 with fail
  refine name_world _ ?_
  intro wF hF0
  have RR : Hid (RB w wF [(w.heap.size, (Ar k))]) := by rw [hF0]; exact (rbN (rb0 w) (by simp))
  clear hF0
  obtain ⟨q0, qT⟩ := RR.out.r.lts
  refine wp_told [(w.heap.size, (Ar k))]
    [sV (U k),
     sV (.tuple #[(A9 px py pn), (.int .i64 0)]),
     sV (.tuple #[(A9 px py pn), (.int .i64 0)]),
     sV (A9 px py pn),
     sV (.int .i64 0),
     sA (fun g => .pointer (some ⟨g, 0, none⟩)) 6 Z9 (P9 px py pn),
     sS 5,
     sV (.int .i64 0)]
    RR.out.b (Rc (RR.out.at 0 rfl) RowsAt.nil) (StOk.of [] rfl StM.nil)
    (Obs.val (fun a' w' E => ob_la 24 (.tmp 1) (E.od 1) (E.row (g := w.heap.size) (c := (Ar k)) 0 rfl) Tryd.underlying24)
    (Obs.val (fun a' w' E => ob_fcall 7 _ _ rfl (am1 (E.n (U k) 7 0)) (fc7 _ _) (hP.out w'))
    (Obs.val (fun a' w' E => ob_move (.tmp 8) rfl (E.n (.tuple #[(A9 px py pn), (.int .i64 0)]) 8 1))
    (Obs.val (fun a' w' E => ob_extract (.tmp 6) 0 rfl (E.n (.tuple #[(A9 px py pn), (.int .i64 0)]) 6 2) rfl)
    (Obs.val (fun a' w' E => ob_extract (.tmp 6) 1 rfl (E.n (.tuple #[(A9 px py pn), (.int .i64 0)]) 6 2) rfl)
    (Obs.alloc (fun a' w' E => ob_alloc (t := 26) (by simp [opAt, execOp, go_sem]))
    (Obs.sta rfl (fun a' w' g E ha hr => ob_sa 26 (.tmp 4) (.tmp 9) (ha 4 (by kernel_rfl)) (E.n (A9 px py pn) 9 3) hr)
    (Obs.val (fun a' w' E => ob_assign (.tmp 10) rfl (E.n (.int .i64 0) 10 4))
    Obs.nil)))))))) ?_
  intro bs w1 aZ haZ F
  have eZ : aZ = (⟨#[(U k), (PT w.heap.size), (.string { data := #[] }), (.int .i64 0), (PT ((bs 5))), (.int .i64 0), (.tuple #[(A9 px py pn), (.int .i64 0)]), (U k), (.tuple #[(A9 px py pn), (.int .i64 0)]), (A9 px py pn), (.int .i64 0), ud, ud, ud, ud, ud], []⟩ : Act) := haZ.trans (by kernel_rfl)
  subst eZ
  clear haZ
  obtain ⟨h5, X5⟩ := F.al 5 rfl rfl
  replace RR : Hid (RB w w1 [((bs 5), (P9 px py pn)), (w.heap.size, (Ar k))]) := ⟨F.bw, (Rc X5 (Rc (F.row 0 rfl) RowsAt.nil))⟩
  generalize bs 5 = g1_5 at *
  have k1_5_0 := Nat.lt_of_lt_of_le q0 h5
  clear F qT q0 h5 X5
  clear wF
  go_upto_region 2 with fail
  obtain ⟨q1, q0, qT⟩ := RR.out.r.lts
  refine wp_told [(w.heap.size, (Ar k)), (g1_5, (P9 px py pn))]
    [sV (.int .i64 0),
     sV (.bool false)]
    RR.out.b (Rc (RR.out.at 1 rfl) (Rc (RR.out.at 0 rfl) RowsAt.nil)) (StOk.of [] rfl StM.nil)
    (Obs.val (fun a' w' E => ob_move (.tmp 5) rfl (E.od 5))
    (Obs.val (fun a' w' E => ob_binOp .neq 27 (.tmp 11) (.const (.int .i64 0)) 27 rfl (E.n (.int .i64 0) 11 0) (evc a' (.int .i64 0)) (by simp [go_sem]))
    Obs.nil)) ?_
  intro bs w2 aZ haZ F
  have eZ : aZ = (⟨#[(U k), (PT w.heap.size), (.string { data := #[] }), (.int .i64 0), (PT g1_5), (.int .i64 0), (.tuple #[(A9 px py pn), (.int .i64 0)]), (U k), (.tuple #[(A9 px py pn), (.int .i64 0)]), (A9 px py pn), (.int .i64 0), (.int .i64 0), (.bool false), ud, ud, ud], []⟩ : Act) := haZ.trans (by kernel_rfl)
  subst eZ
  clear haZ
  replace RR : Hid (RB w w2 [(g1_5, (P9 px py pn)), (w.heap.size, (Ar k))]) := ⟨F.bw, (Rc (F.row 1 rfl) (Rc (F.row 0 rfl) RowsAt.nil))⟩
  clear F qT q0 q1
  go_upto_region 4 with fail
  obtain ⟨q1, q0, qT⟩ := RR.out.r.lts
  refine wp_told [(w.heap.size, (Ar k)), (g1_5, (P9 px py pn))]
    [sV (A9 px py pn),
     sV (.string s),
     sV (.string s),
     sV (.int .i64 0)]
    RR.out.b (Rc (RR.out.at 1 rfl) (Rc (RR.out.at 0 rfl) RowsAt.nil)) (StOk.of [] rfl StM.nil)
    (Obs.val (fun a' w' E => ob_la 26 (.tmp 4) (E.od 4) (E.row (g := g1_5) (c := (P9 px py pn)) 1 rfl) Tryd.underlying26)
    (Obs.val (fun a' w' E => ob_fcall 16 _ _ rfl (am1 (E.n (A9 px py pn) 14 0)) (fc16 _ _) (tbl hA HT.out E.bw w'))
    (Obs.val (fun a' w' E => ob_assign (.tmp 15) rfl (E.n (.string s) 15 1))
    (Obs.val (fun a' w' E => ob_assign (.const (.int .i64 0)) rfl (evc a' (.int .i64 0)))
    Obs.nil)))) ?_
  intro bs w3 aZ haZ F
  have eZ : aZ = (⟨#[(U k), (PT w.heap.size), (.string s), (.int .i64 0), (PT g1_5), (.int .i64 0), (.tuple #[(A9 px py pn), (.int .i64 0)]), (U k), (.tuple #[(A9 px py pn), (.int .i64 0)]), (A9 px py pn), (.int .i64 0), (.int .i64 0), (.bool false), ud, (A9 px py pn), (.string s)], []⟩ : Act) := haZ.trans (by kernel_rfl)
  subst eZ
  clear haZ
  replace RR : Hid (RB w w3 [(g1_5, (P9 px py pn)), (w.heap.size, (Ar k))]) := ⟨F.bw, (Rc (F.row 1 rfl) (Rc (F.row 0 rfl) RowsAt.nil))⟩
  clear F qT q0 q1
  go_wp2
  exact bodyPost_ret (v := (.tuple #[(.string s), (.int .i64 0)])) (by simp [results, Tryd.results9, go_sem]) rfl ⟨rfl, RR.out.b⟩
end Go.Proofs.YtpdoonofipcbeaaDoor
namespace Go.Proofs.YtpdoonofipcbeaaDoor
open Go.RowKit Go.Sort
set_option linter.unusedVariables false
set_option maxRecDepth 100000 in
set_option maxHeartbeats 4000000 in
theorem rfit_zero (k : Nat)  (hE0 : ∀ w, (Op.equalIn 10000 24 (U k) (U 0)).run Tryd.prog w = .ok true w)
    (w : World) : Calls Tryd.prog 12 #[(U k)] w fun e w' => e = .returned (.bool false) ∧ Below w.heap.size w w' := by
  go_enter Tryd.func12, Tryd.ntmps12
  go_upto_region 1 with fail
  refine name_world _ ?_
  intro wF hF0
  have RR : Hid (RB w wF [(w.heap.size, (Ar k))]) := by rw [hF0]; exact (rbN (rb0 w) (by simp))
  clear hF0
  obtain ⟨q0, qT⟩ := RR.out.r.lts
  refine wp_told [(w.heap.size, (Ar k))]
    [sV (U k),
     sV (U 0),
     sV (.bool false),
     sV (.bool false),
     sV ud,
     sV ud,
     sV ud,
     sV ud,
     sV (.bool false),
     sV (.bool false)]
    RR.out.b (Rc (RR.out.at 0 rfl) RowsAt.nil) (StOk.of [] rfl StM.nil)
    (Obs.val (fun a' w' E => ob_la 24 (.tmp 1) (E.od 1) (E.row (g := w.heap.size) (c := (Ar k)) 0 rfl) Tryd.underlying24)
    (Obs.val (fun a' w' E => ob_build 24 _ rfl (pm0) (bd24_ w'))
    (Obs.val (fun a' w' E => ob_binOp .neq 24 (.tmp 3) (.tmp 4) 24 rfl (E.n (U k) 3 0) (E.n (U 0) 4 1) (by simp [go_sem, hE0]))
    (Obs.val (fun a' w' E => ob_move (.tmp 5) rfl (E.n (.bool false) 5 2))
    (Obs.skip rfl rfl (fun a' w' E => E.new 6 3 (by kernel_rfl) rfl) (by decide) 
    (Obs.skip rfl rfl (fun a' w' E => E.new 6 3 (by kernel_rfl) rfl) (by decide) 
    (Obs.skip rfl rfl (fun a' w' E => E.new 6 3 (by kernel_rfl) rfl) (by decide) 
    (Obs.skip rfl rfl (fun a' w' E => E.new 6 3 (by kernel_rfl) rfl) (by decide) 
    (Obs.val (fun a' w' E => ob_pick (.tmp 6) (.tmp 10) (.const (.bool false)) rfl (E.n (.bool false) 6 3) (evc a' (.bool false)))
    (Obs.val (fun a' w' E => ob_assign (.tmp 11) rfl (E.n (.bool false) 11 8))
    Obs.nil)))))))))) ?_
  intro bs w1 aZ haZ F
  have eZ : aZ = (⟨#[(U k), (PT w.heap.size), (.bool false), (U k), (U 0), (.bool false), (.bool false), ud, ud, ud, ud, (.bool false)], []⟩ : Act) := haZ.trans (by kernel_rfl)
  subst eZ
  clear haZ
  replace RR : Hid (RB w w1 [(w.heap.size, (Ar k))]) := ⟨F.bw, (Rc (F.row 0 rfl) RowsAt.nil)⟩
  clear F qT q0
  clear wF
  go_wp2
  exact bodyPost_ret (v := (.bool false)) (by simp [results, Tryd.results12, go_sem]) rfl ⟨rfl, RR.out.b⟩
set_option maxRecDepth 100000 in
set_option maxHeartbeats 4000000 in
theorem rfit_big (k od : Nat) (z : Int) (hz : ¬ z < 0) (hO : Does 20 #[] (U od)) (hC : Does 23 #[(U k), (U od)] (.int .i64 z)) (hE0 : ∀ w, (Op.equalIn 10000 24 (U k) (U 0)).run Tryd.prog w = .ok false w)
    (w : World) : Calls Tryd.prog 12 #[(U k)] w fun e w' => e = .returned (.bool false) ∧ Below w.heap.size w w' := by
  go_enter Tryd.func12, Tryd.ntmps12
  go_upto_region 1 with fail
  refine name_world _ ?_
  intro wF hF0
  have RR : Hid (RB w wF [(w.heap.size, (Ar k))]) := by rw [hF0]; exact (rbN (rb0 w) (by simp))
  clear hF0
  obtain ⟨q0, qT⟩ := RR.out.r.lts
  refine wp_told [(w.heap.size, (Ar k))]
    [sV (U k),
     sV (U 0),
     sV (.bool true),
     sV (.bool true),
     sV (U k),
     sV (U od),
     sV (.int .i64 z),
     sV (.bool false),
     sV (.bool false),
     sV (.bool false)]
    RR.out.b (Rc (RR.out.at 0 rfl) RowsAt.nil) (StOk.of [] rfl StM.nil)
    (Obs.val (fun a' w' E => ob_la 24 (.tmp 1) (E.od 1) (E.row (g := w.heap.size) (c := (Ar k)) 0 rfl) Tryd.underlying24)
    (Obs.val (fun a' w' E => ob_build 24 _ rfl (pm0) (bd24_ w'))
    (Obs.val (fun a' w' E => ob_binOp .neq 24 (.tmp 3) (.tmp 4) 24 rfl (E.n (U k) 3 0) (E.n (U 0) 4 1) (by simp [go_sem, hE0]))
    (Obs.val (fun a' w' E => ob_move (.tmp 5) rfl (E.n (.bool true) 5 2))
    (Obs.gval rfl rfl (fun a' w' E => E.new 6 3 (by kernel_rfl) rfl) (fun a' w' E => ob_la 24 (.tmp 1) (E.od 1) (E.row (g := w.heap.size) (c := (Ar k)) 0 rfl) Tryd.underlying24)
    (Obs.gval rfl rfl (fun a' w' E => E.new 6 3 (by kernel_rfl) rfl) (fun a' w' E => ob_fcall 20 _ _ rfl (am0) (fc20 _ _) (hO.out w'))
    (Obs.gval rfl rfl (fun a' w' E => E.new 6 3 (by kernel_rfl) rfl) (fun a' w' E => ob_fcall 23 _ _ rfl (am2 (E.n (U k) 7 4) (E.n (U od) 8 5)) (fc23 _ _) (hC.out w'))
    (Obs.gval rfl rfl (fun a' w' E => E.new 6 3 (by kernel_rfl) rfl) (fun a' w' E => ob_binOp .lss 3 (.tmp 9) (.const (.int .i64 0)) 3 rfl (E.n (.int .i64 z) 9 6) (evc a' (.int .i64 0)) (by simp [go_sem, hz]))
    (Obs.val (fun a' w' E => ob_pick (.tmp 6) (.tmp 10) (.const (.bool false)) rfl (E.n (.bool true) 6 3) (E.n (.bool false) 10 7))
    (Obs.val (fun a' w' E => ob_assign (.tmp 11) rfl (E.n (.bool false) 11 8))
    Obs.nil)))))))))) ?_
  intro bs w1 aZ haZ F
  have eZ : aZ = (⟨#[(U k), (PT w.heap.size), (.bool false), (U k), (U 0), (.bool true), (.bool true), (U k), (U od), (.int .i64 z), (.bool false), (.bool false)], []⟩ : Act) := haZ.trans (by kernel_rfl)
  subst eZ
  clear haZ
  replace RR : Hid (RB w w1 [(w.heap.size, (Ar k))]) := ⟨F.bw, (Rc (F.row 0 rfl) RowsAt.nil)⟩
  clear F qT q0
  clear wF
  go_wp2
  exact bodyPost_ret (v := (.bool false)) (by simp [results, Tryd.results12, go_sem]) rfl ⟨rfl, RR.out.b⟩
set_option maxRecDepth 100000 in
set_option maxHeartbeats 4000000 in
theorem rfit_ok (k od : Nat) (z : Int) (hz : z < 0) (hO : Does 20 #[] (U od)) (hC : Does 23 #[(U k), (U od)] (.int .i64 z)) (hE0 : ∀ w, (Op.equalIn 10000 24 (U k) (U 0)).run Tryd.prog w = .ok false w)
    (w : World) : Calls Tryd.prog 12 #[(U k)] w fun e w' => e = .returned (.bool true) ∧ Below w.heap.size w w' := by
  go_enter Tryd.func12, Tryd.ntmps12
  go_upto_region 1 with fail
  refine name_world _ ?_
  intro wF hF0
  have RR : Hid (RB w wF [(w.heap.size, (Ar k))]) := by rw [hF0]; exact (rbN (rb0 w) (by simp))
  clear hF0
  obtain ⟨q0, qT⟩ := RR.out.r.lts
  refine wp_told [(w.heap.size, (Ar k))]
    [sV (U k),
     sV (U 0),
     sV (.bool true),
     sV (.bool true),
     sV (U k),
     sV (U od),
     sV (.int .i64 z),
     sV (.bool true),
     sV (.bool true),
     sV (.bool true)]
    RR.out.b (Rc (RR.out.at 0 rfl) RowsAt.nil) (StOk.of [] rfl StM.nil)
    (Obs.val (fun a' w' E => ob_la 24 (.tmp 1) (E.od 1) (E.row (g := w.heap.size) (c := (Ar k)) 0 rfl) Tryd.underlying24)
    (Obs.val (fun a' w' E => ob_build 24 _ rfl (pm0) (bd24_ w'))
    (Obs.val (fun a' w' E => ob_binOp .neq 24 (.tmp 3) (.tmp 4) 24 rfl (E.n (U k) 3 0) (E.n (U 0) 4 1) (by simp [go_sem, hE0]))
    (Obs.val (fun a' w' E => ob_move (.tmp 5) rfl (E.n (.bool true) 5 2))
    (Obs.gval rfl rfl (fun a' w' E => E.new 6 3 (by kernel_rfl) rfl) (fun a' w' E => ob_la 24 (.tmp 1) (E.od 1) (E.row (g := w.heap.size) (c := (Ar k)) 0 rfl) Tryd.underlying24)
    (Obs.gval rfl rfl (fun a' w' E => E.new 6 3 (by kernel_rfl) rfl) (fun a' w' E => ob_fcall 20 _ _ rfl (am0) (fc20 _ _) (hO.out w'))
    (Obs.gval rfl rfl (fun a' w' E => E.new 6 3 (by kernel_rfl) rfl) (fun a' w' E => ob_fcall 23 _ _ rfl (am2 (E.n (U k) 7 4) (E.n (U od) 8 5)) (fc23 _ _) (hC.out w'))
    (Obs.gval rfl rfl (fun a' w' E => E.new 6 3 (by kernel_rfl) rfl) (fun a' w' E => ob_binOp .lss 3 (.tmp 9) (.const (.int .i64 0)) 3 rfl (E.n (.int .i64 z) 9 6) (evc a' (.int .i64 0)) (by simp [go_sem, hz]))
    (Obs.val (fun a' w' E => ob_pick (.tmp 6) (.tmp 10) (.const (.bool false)) rfl (E.n (.bool true) 6 3) (E.n (.bool true) 10 7))
    (Obs.val (fun a' w' E => ob_assign (.tmp 11) rfl (E.n (.bool true) 11 8))
    Obs.nil)))))))))) ?_
  intro bs w1 aZ haZ F
  have eZ : aZ = (⟨#[(U k), (PT w.heap.size), (.bool true), (U k), (U 0), (.bool true), (.bool true), (U k), (U od), (.int .i64 z), (.bool true), (.bool true)], []⟩ : Act) := haZ.trans (by kernel_rfl)
  subst eZ
  clear haZ
  replace RR : Hid (RB w w1 [(w.heap.size, (Ar k))]) := ⟨F.bw, (Rc (F.row 0 rfl) RowsAt.nil)⟩
  clear F qT q0
  clear wF
  go_wp2
  exact bodyPost_ret (v := (.bool true)) (by simp [results, Tryd.results12, go_sem]) rfl ⟨rfl, RR.out.b⟩
set_option maxRecDepth 100000 in
set_option maxHeartbeats 4000000 in
theorem rsmall_raw (n r : Nat) (ov : Bool) (hA : Does 22 #[(.agg #[B n, .int .u64 0, .int .u64 0, .int .u64 0]), (.agg #[.int .u64 1, .int .u64 0, .int .u64 0, .int .u64 0])] (.tuple #[(U r), (.bool ov)])) 
    (w : World) : Calls Tryd.prog 14 #[(B n)] w fun e w' => e = .returned (U r) ∧ Below w.heap.size w w' := by
  go_enter Tryd.func14, Tryd.ntmps14
  go_upto_region 1 with fail
  refine name_world _ ?_
  intro wF hF0
  have RR : Hid (RB w wF [(w.heap.size, Zr)]) := by rw [hF0]; exact (rbN (rb0 w) (by simp))
  clear hF0
  obtain ⟨q0, qT⟩ := RR.out.r.lts
  refine wp_told [(w.heap.size, Zr)]
    [sV (B n),
     sV (.agg #[B n, .int .u64 0, .int .u64 0, .int .u64 0]),
     sV (.agg #[.int .u64 1, .int .u64 0, .int .u64 0, .int .u64 0]),
     sV (.tuple #[(U r), (.bool ov)]),
     sV (.tuple #[(U r), (.bool ov)]),
     sV (U r),
     sV (.bool ov),
     sA (fun g => .pointer (some ⟨g, 0, none⟩)) 8 Zr (Ar r),
     sS 7,
     sV (.bool ov)]
    RR.out.b (Rc (RR.out.at 0 rfl) RowsAt.nil) (StOk.of [] rfl StM.nil)
    (Obs.val (fun a' w' E => ob_move (.tmp 0) rfl (E.od 0))
    (Obs.val (fun a' w' E => ob_build 24 _ rfl (pm4 (E.n (B n) 6 0) (evc a' (.int .u64 0)) (evc a' (.int .u64 0)) (evc a' (.int .u64 0))) (bd24_0i_1i_2i_3i _ _ _ _ w'))
    (Obs.val (fun a' w' E => ob_build 24 _ rfl (pm4 (evc a' (.int .u64 1)) (evc a' (.int .u64 0)) (evc a' (.int .u64 0)) (evc a' (.int .u64 0))) (bd24_0i_1i_2i_3i _ _ _ _ w'))
    (Obs.val (fun a' w' E => ob_fcall 22 _ _ rfl (am2 (E.n (.agg #[B n, .int .u64 0, .int .u64 0, .int .u64 0]) 7 1) (E.n (.agg #[.int .u64 1, .int .u64 0, .int .u64 0, .int .u64 0]) 8 2)) (fc22 _ _) (hA.out w'))
    (Obs.val (fun a' w' E => ob_move (.tmp 9) rfl (E.n (.tuple #[(U r), (.bool ov)]) 9 3))
    (Obs.val (fun a' w' E => ob_extract (.tmp 5) 0 rfl (E.n (.tuple #[(U r), (.bool ov)]) 5 4) rfl)
    (Obs.val (fun a' w' E => ob_extract (.tmp 5) 1 rfl (E.n (.tuple #[(U r), (.bool ov)]) 5 4) rfl)
    (Obs.alloc (fun a' w' E => ob_alloc (t := 24) (by simp [opAt, execOp, go_sem]))
    (Obs.sta rfl (fun a' w' g E ha hr => ob_sa 24 (.tmp 3) (.tmp 10) (ha 3 (by kernel_rfl)) (E.n (U r) 10 5) hr)
    (Obs.val (fun a' w' E => ob_assign (.tmp 11) rfl (E.n (.bool ov) 11 6))
    Obs.nil)))))))))) ?_
  intro bs w1 aZ haZ F
  have eZ : aZ = (⟨#[(B n), ud, (PT w.heap.size), (PT ((bs 7))), (.bool ov), (.tuple #[(U r), (.bool ov)]), (B n), (.agg #[B n, .int .u64 0, .int .u64 0, .int .u64 0]), (.agg #[.int .u64 1, .int .u64 0, .int .u64 0, .int .u64 0]), (.tuple #[(U r), (.bool ov)]), (U r), (.bool ov), ud], []⟩ : Act) := haZ.trans (by kernel_rfl)
  subst eZ
  clear haZ
  obtain ⟨h7, X7⟩ := F.al 7 rfl rfl
  replace RR : Hid (RB w w1 [((bs 7), (Ar r)), (w.heap.size, Zr)]) := ⟨F.bw, (Rc X7 (Rc (F.row 0 rfl) RowsAt.nil))⟩
  generalize bs 7 = g1_7 at *
  have k1_7_0 := Nat.lt_of_lt_of_le q0 h7
  clear F qT q0 h7 X7
  clear wF
  go_upto_region 2 with fail
  obtain ⟨q1, q0, qT⟩ := RR.out.r.lts
  refine wp_told [(g1_7, (Ar r))]
    [sV (U r),
     sK (w.heap.size) Zr (Ar r)]
    RR.out.b (Rc (RR.out.at 0 rfl) RowsAt.nil) (StOk.of [(w.heap.size, Zr)] rfl (StM.cons (RR.out.at 1 rfl) (by omega) (Apart.cons (by omega) Apart.nil) Apart.nil StM.nil))
    (Obs.val (fun a' w' E => ob_la 24 (.tmp 3) (E.od 3) (E.row (g := g1_7) (c := (Ar r)) 0 rfl) Tryd.underlying24)
    (Obs.stk (fun a' w' E hr => ob_sa 24 (.tmp 2) (.tmp 12) (E.od 2) (E.n (U r) 12 0) hr)
    Obs.nil)) ?_
  intro bs w2 aZ haZ F
  have eZ : aZ = (⟨#[(B n), ud, (PT w.heap.size), (PT g1_7), (.bool ov), (.tuple #[(U r), (.bool ov)]), (B n), (.agg #[B n, .int .u64 0, .int .u64 0, .int .u64 0]), (.agg #[.int .u64 1, .int .u64 0, .int .u64 0, .int .u64 0]), (.tuple #[(U r), (.bool ov)]), (U r), (.bool ov), (U r)], []⟩ : Act) := haZ.trans (by kernel_rfl)
  subst eZ
  clear haZ
  replace RR : Hid (RB w w2 [(g1_7, (Ar r)), (w.heap.size, (Ar r))]) := ⟨F.bw, (Rc (F.row 0 rfl) (Rc (F.sk 1 rfl) RowsAt.nil))⟩
  clear F qT q0 q1
  go_wp2
  exact bodyPost_ret (v := (U r)) (resA (p := 2) (ty := 24) rfl (g := w.heap.size) rfl (RR.out.at 1 rfl) Tryd.underlying24 rfl (by kernel_rfl)) rfl ⟨rfl, RR.out.b⟩
set_option maxRecDepth 100000 in
set_option maxHeartbeats 4000000 in
theorem rpublic_no (k : Nat) (hF : Does 12 #[(U k)] (.bool false)) 
    (w : World) : Calls Tryd.prog 8 #[(U k)] w fun e w' => e = .returned (.tuple #[(A9 0 0 false), (.int .i64 5)]) ∧ Below w.heap.size w w' := by
  go_enter Tryd.func8, Tryd.ntmps8
  go_upto_region 1 with fail
  refine name_world _ ?_
  intro wF hF0
  have RR : Hid (RB w wF [(w.heap.size + 1, Z9), (w.heap.size, (Ar k))]) := by rw [hF0]; exact (rbN (rbN (rb0 w) (by simp)) (by simp))
  clear hF0
  obtain ⟨q1, q0, qT⟩ := RR.out.r.lts
  refine wp_told [(w.heap.size, (Ar k)), (w.heap.size + 1, Z9)]
    [sV (U k),
     sV (.bool false),
     sV (.bool true)]
    RR.out.b (Rc (RR.out.at 1 rfl) (Rc (RR.out.at 0 rfl) RowsAt.nil)) (StOk.of [] rfl StM.nil)
    (Obs.val (fun a' w' E => ob_la 24 (.tmp 1) (E.od 1) (E.row (g := w.heap.size) (c := (Ar k)) 0 rfl) Tryd.underlying24)
    (Obs.val (fun a' w' E => ob_fcall 12 _ _ rfl (am1 (E.n (U k) 4 0)) (fc12 _ _) (hF.out w'))
    (Obs.val (fun a' w' E => ob_unOp .not 4 (.tmp 5) rfl (E.n (.bool false) 5 1) (by simp [go_sem]))
    Obs.nil))) ?_
  intro bs w1 aZ haZ F
  have eZ : aZ = (⟨#[(U k), (PT w.heap.size), (PT (w.heap.size + 1)), (.int .i64 0), (U k), (.bool false), (.bool true), ud, ud, ud, ud], []⟩ : Act) := haZ.trans (by kernel_rfl)
  subst eZ
  clear haZ
  replace RR : Hid (RB w w1 [(w.heap.size + 1, Z9), (w.heap.size, (Ar k))]) := ⟨F.bw, (Rc (F.row 1 rfl) (Rc (F.row 0 rfl) RowsAt.nil))⟩
  clear F qT q0 q1
  clear wF
  go_upto_region 2 with fail
  obtain ⟨q1, q0, qT⟩ := RR.out.r.lts
  refine wp_told [(w.heap.size, (Ar k))]
    [sV (A9 0 0 false),
     sK (w.heap.size + 1) Z9 (P9 0 0 false),
     sV (.int .i64 5)]
    RR.out.b (Rc (RR.out.at 1 rfl) RowsAt.nil) (StOk.of [(w.heap.size + 1, Z9)] rfl (StM.cons (RR.out.at 0 rfl) (by omega) (Apart.cons (by omega) Apart.nil) Apart.nil StM.nil))
    (Obs.val (fun a' w' E => ob_build 26 _ rfl (pm0) (bd26_ w'))
    (Obs.stk (fun a' w' E hr => ob_sa 26 (.tmp 2) (.tmp 7) (E.od 2) (E.n (A9 0 0 false) 7 0) hr)
    (Obs.val (fun a' w' E => ob_assign (.const (.int .i64 5)) rfl (evc a' (.int .i64 5)))
    Obs.nil))) ?_
  intro bs w2 aZ haZ F
  have eZ : aZ = (⟨#[(U k), (PT w.heap.size), (PT (w.heap.size + 1)), (.int .i64 5), (U k), (.bool false), (.bool true), (A9 0 0 false), ud, ud, ud], []⟩ : Act) := haZ.trans (by kernel_rfl)
  subst eZ
  clear haZ
  replace RR : Hid (RB w w2 [(w.heap.size + 1, (P9 0 0 false)), (w.heap.size, (Ar k))]) := ⟨F.bw, (Rc (F.sk 1 rfl) (Rc (F.row 0 rfl) RowsAt.nil))⟩
  clear F qT q0 q1
  go_wp2
  exact bodyPost_ret (v := (.tuple #[(A9 0 0 false), (.int .i64 5)])) (resAT (p := 2) (q := 3) (ty := 26) rfl (g := w.heap.size + 1) rfl rfl (RR.out.at 0 rfl) Tryd.underlying26 rfl (by kernel_rfl)) rfl ⟨rfl, RR.out.b⟩
set_option maxRecDepth 100000 in
set_option maxHeartbeats 4000000 in
theorem rpublic_yes (k gx gy px py : Nat) (gn pn : Bool) (hF : Does 12 #[(U k)] (.bool true)) (hB : Does 28 #[] (A9 gx gy gn)) (hM : Does 27 #[(U k), (A9 gx gy gn)] (A9 px py pn)) 
    (w : World) : Calls Tryd.prog 8 #[(U k)] w fun e w' => e = .returned (.tuple #[(A9 px py pn), (.int .i64 0)]) ∧ Below w.heap.size w w' := by
  go_enter Tryd.func8, Tryd.ntmps8
  go_upto_region 1 with fail
  refine name_world _ ?_
  intro wF hF0
  have RR : Hid (RB w wF [(w.heap.size + 1, Z9), (w.heap.size, (Ar k))]) := by rw [hF0]; exact (rbN (rbN (rb0 w) (by simp)) (by simp))
  clear hF0
  obtain ⟨q1, q0, qT⟩ := RR.out.r.lts
  refine wp_told [(w.heap.size, (Ar k)), (w.heap.size + 1, Z9)]
    [sV (U k),
     sV (.bool true),
     sV (.bool false)]
    RR.out.b (Rc (RR.out.at 1 rfl) (Rc (RR.out.at 0 rfl) RowsAt.nil)) (StOk.of [] rfl StM.nil)
    (Obs.val (fun a' w' E => ob_la 24 (.tmp 1) (E.od 1) (E.row (g := w.heap.size) (c := (Ar k)) 0 rfl) Tryd.underlying24)
    (Obs.val (fun a' w' E => ob_fcall 12 _ _ rfl (am1 (E.n (U k) 4 0)) (fc12 _ _) (hF.out w'))
    (Obs.val (fun a' w' E => ob_unOp .not 4 (.tmp 5) rfl (E.n (.bool true) 5 1) (by simp [go_sem]))
    Obs.nil))) ?_
  intro bs w1 aZ haZ F
  have eZ : aZ = (⟨#[(U k), (PT w.heap.size), (PT (w.heap.size + 1)), (.int .i64 0), (U k), (.bool true), (.bool false), ud, ud, ud, ud], []⟩ : Act) := haZ.trans (by kernel_rfl)
  subst eZ
  clear haZ
  replace RR : Hid (RB w w1 [(w.heap.size + 1, Z9), (w.heap.size, (Ar k))]) := ⟨F.bw, (Rc (F.row 1 rfl) (Rc (F.row 0 rfl) RowsAt.nil))⟩
  clear F qT q0 q1
  clear wF
  go_upto_region 3 with fail
  obtain ⟨q1, q0, qT⟩ := RR.out.r.lts
  refine wp_told [(w.heap.size, (Ar k))]
    [sV (U k),
     sV (A9 gx gy gn),
     sV (A9 px py pn),
     sK (w.heap.size + 1) Z9 (P9 px py pn),
     sV (.int .i64 0)]
    RR.out.b (Rc (RR.out.at 1 rfl) RowsAt.nil) (StOk.of [(w.heap.size + 1, Z9)] rfl (StM.cons (RR.out.at 0 rfl) (by omega) (Apart.cons (by omega) Apart.nil) Apart.nil StM.nil))
    (Obs.val (fun a' w' E => ob_la 24 (.tmp 1) (E.od 1) (E.row (g := w.heap.size) (c := (Ar k)) 0 rfl) Tryd.underlying24)
    (Obs.val (fun a' w' E => ob_fcall 28 _ _ rfl (am0) (fc28 _ _) (hB.out w'))
    (Obs.val (fun a' w' E => ob_fcall 27 _ _ rfl (am2 (E.n (U k) 8 0) (E.n (A9 gx gy gn) 9 1)) (fc27 _ _) (hM.out w'))
    (Obs.stk (fun a' w' E hr => ob_sa 26 (.tmp 2) (.tmp 10) (E.od 2) (E.n (A9 px py pn) 10 2) hr)
    (Obs.val (fun a' w' E => ob_assign (.const (.int .i64 0)) rfl (evc a' (.int .i64 0)))
    Obs.nil))))) ?_
  intro bs w2 aZ haZ F
  have eZ : aZ = (⟨#[(U k), (PT w.heap.size), (PT (w.heap.size + 1)), (.int .i64 0), (U k), (.bool true), (.bool false), ud, (U k), (A9 gx gy gn), (A9 px py pn)], []⟩ : Act) := haZ.trans (by kernel_rfl)
  subst eZ
  clear haZ
  replace RR : Hid (RB w w2 [(w.heap.size + 1, (P9 px py pn)), (w.heap.size, (Ar k))]) := ⟨F.bw, (Rc (F.sk 3 rfl) (Rc (F.row 0 rfl) RowsAt.nil))⟩
  clear F qT q0 q1
  go_wp2
  exact bodyPost_ret (v := (.tuple #[(A9 px py pn), (.int .i64 0)])) (resAT (p := 2) (q := 3) (ty := 26) rfl (g := w.heap.size + 1) rfl rfl (RR.out.at 0 rfl) Tryd.underlying26 rfl (by kernel_rfl)) rfl ⟨rfl, RR.out.b⟩
set_option maxRecDepth 100000 in
set_option maxHeartbeats 4000000 in
theorem raddr_none (x y : Nat)  
    (w : World) : Calls Tryd.prog 17 #[(A9 x y true)] w fun e w' => e = .returned (.string { data := #[] }) ∧ Below w.heap.size w w' := by
  go_enter Tryd.func17, Tryd.ntmps17
  go_upto_region 1 with fail
  refine name_world _ ?_
  intro wF hF0
  have RR : Hid (RB w wF [(w.heap.size, (P9 x y true))]) := by rw [hF0]; exact (rbN (rb0 w) (by simp))
  clear hF0
  obtain ⟨q0, qT⟩ := RR.out.r.lts
  refine wp_told [(w.heap.size, (P9 x y true))]
    [sV (PO w.heap.size 8),
     sV (.bool true)]
    RR.out.b (Rc (RR.out.at 0 rfl) RowsAt.nil) (StOk.of [] rfl StM.nil)
    (Obs.val (fun a' w' E => ob_fieldAddr 26 (.tmp 1) 2 rfl (E.od 1) (fa26_2 _ _ w'))
    (Obs.val (fun a' w' E => ob_load1 4 (.tmp 3) rfl (E.n (PO w.heap.size 8) 3 0) (E.row (g := w.heap.size) (c := (P9 x y true)) 0 rfl) Tryd.underlying4 rfl rfl)
    Obs.nil)) ?_
  intro bs w1 aZ haZ F
  have eZ : aZ = (⟨#[(A9 x y true), (PT w.heap.size), (.string { data := #[] }), (PO w.heap.size 8), (.bool true), ud, ud, ud, ud, ud, ud, ud, ud, ud], []⟩ : Act) := haZ.trans (by kernel_rfl)
  subst eZ
  clear haZ
  replace RR : Hid (RB w w1 [(w.heap.size, (P9 x y true))]) := ⟨F.bw, (Rc (F.row 0 rfl) RowsAt.nil)⟩
  clear F qT q0
  clear wF
  go_upto_region 2 with fail
  obtain ⟨q0, qT⟩ := RR.out.r.lts
  refine wp_told [(w.heap.size, (P9 x y true))]
    [sV (.string { data := #[] })]
    RR.out.b (Rc (RR.out.at 0 rfl) RowsAt.nil) (StOk.of [] rfl StM.nil)
    (Obs.val (fun a' w' E => ob_assign (.const (.string { data := #[] })) rfl (evc a' (.string { data := #[] })))
    Obs.nil) ?_
  intro bs w2 aZ haZ F
  have eZ : aZ = (⟨#[(A9 x y true), (PT w.heap.size), (.string { data := #[] }), (PO w.heap.size 8), (.bool true), ud, ud, ud, ud, ud, ud, ud, ud, ud], []⟩ : Act) := haZ.trans (by kernel_rfl)
  subst eZ
  clear haZ
  replace RR : Hid (RB w w2 [(w.heap.size, (P9 x y true))]) := ⟨F.bw, (Rc (F.row 0 rfl) RowsAt.nil)⟩
  clear F qT q0
  go_wp2
  exact bodyPost_ret (v := (.string { data := #[] })) (by simp [results, Tryd.results17, go_sem]) rfl ⟨rfl, RR.out.b⟩
set_option maxRecDepth 100000 in
set_option maxHeartbeats 4000000 in
theorem raddr_some (x y : Nat) (a b d r : ByteArray) (hab : a.size + b.size ≤ 9223372036854775807) (hsl : ∀ w, (Instr.slice 9 (.string d) (some (.int .i64 12)) none none).run Tryd.prog w = .ok (.string r) w) (h1 : Does 41 #[(U x)] (.string a)) (h2 : Does 41 #[(U y)] (.string b)) (hS : Does 40 #[(.string ((a ++ b)))] (.string d)) 
    (w : World) : Calls Tryd.prog 17 #[(A9 x y false)] w fun e w' => e = .returned (.string r) ∧ Below w.heap.size w w' := by
  go_enter Tryd.func17, Tryd.ntmps17
  go_upto_region 1 with fail
  refine name_world _ ?_
  intro wF hF0
  have RR : Hid (RB w wF [(w.heap.size, (P9 x y false))]) := by rw [hF0]; exact (rbN (rb0 w) (by simp))
  clear hF0
  obtain ⟨q0, qT⟩ := RR.out.r.lts
  refine wp_told [(w.heap.size, (P9 x y false))]
    [sV (PO w.heap.size 8),
     sV (.bool false)]
    RR.out.b (Rc (RR.out.at 0 rfl) RowsAt.nil) (StOk.of [] rfl StM.nil)
    (Obs.val (fun a' w' E => ob_fieldAddr 26 (.tmp 1) 2 rfl (E.od 1) (fa26_2 _ _ w'))
    (Obs.val (fun a' w' E => ob_load1 4 (.tmp 3) rfl (E.n (PO w.heap.size 8) 3 0) (E.row (g := w.heap.size) (c := (P9 x y false)) 0 rfl) Tryd.underlying4 rfl rfl)
    Obs.nil)) ?_
  intro bs w1 aZ haZ F
  have eZ : aZ = (⟨#[(A9 x y false), (PT w.heap.size), (.string { data := #[] }), (PO w.heap.size 8), (.bool false), ud, ud, ud, ud, ud, ud, ud, ud, ud], []⟩ : Act) := haZ.trans (by kernel_rfl)
  subst eZ
  clear haZ
  replace RR : Hid (RB w w1 [(w.heap.size, (P9 x y false))]) := ⟨F.bw, (Rc (F.row 0 rfl) RowsAt.nil)⟩
  clear F qT q0
  clear wF
  go_upto_region 3 with fail
  obtain ⟨q0, qT⟩ := RR.out.r.lts
  refine wp_told [(w.heap.size, (P9 x y false))]
    [sV (PT w.heap.size),
     sV (U x),
     sV (.string a),
     sV (PO w.heap.size 4),
     sV (U y),
     sV (.string b),
     sV (.string ((a ++ b))),
     sV (.string d),
     sV (.string r),
     sV (.string r)]
    RR.out.b (Rc (RR.out.at 0 rfl) RowsAt.nil) (StOk.of [] rfl StM.nil)
    (Obs.val (fun a' w' E => ob_fieldAddr 26 (.tmp 1) 0 rfl (E.od 1) (fa26_0 _ _ w'))
    (Obs.val (fun a' w' E => ob_la 24 (.tmp 5) (E.n (PT w.heap.size) 5 0) (E.row (g := w.heap.size) (c := (P9 x y false)) 0 rfl) Tryd.underlying24)
    (Obs.val (fun a' w' E => ob_fcall 41 _ _ rfl (am1 (E.n (U x) 6 1)) (fc41 _ _) (h1.out w'))
    (Obs.val (fun a' w' E => ob_fieldAddr 26 (.tmp 1) 1 rfl (E.od 1) (fa26_1 _ _ w'))
    (Obs.val (fun a' w' E => ob_la 24 (.tmp 8) (E.n (PO w.heap.size 4) 8 3) (E.row (g := w.heap.size) (c := (P9 x y false)) 0 rfl) Tryd.underlying24)
    (Obs.val (fun a' w' E => ob_fcall 41 _ _ rfl (am1 (E.n (U y) 9 4)) (fc41 _ _) (h2.out w'))
    (Obs.val (fun a' w' E => ob_binOp .add 9 (.tmp 7) (.tmp 10) 9 rfl (E.n (.string a) 7 2) (E.n (.string b) 10 5) (by simp [go_sem, hab]))
    (Obs.val (fun a' w' E => ob_fcall 40 _ _ rfl (am1 (E.n (.string ((a ++ b))) 11 6)) (fc40 _ _) (hS.out w'))
    (Obs.val (fun a' w' E => ob_val (by simp [opAt, execOp, go_sem, ev (show a'.eval (.tmp 12) = (.string d) from (E.n (.string d) 12 7)), hsl]))
    (Obs.val (fun a' w' E => ob_assign (.tmp 13) rfl (E.n (.string r) 13 8))
    Obs.nil)))))))))) ?_
  intro bs w2 aZ haZ F
  have eZ : aZ = (⟨#[(A9 x y false), (PT w.heap.size), (.string r), (PO w.heap.size 8), (.bool false), (PT w.heap.size), (U x), (.string a), (PO w.heap.size 4), (U y), (.string b), (.string ((a ++ b))), (.string d), (.string r)], []⟩ : Act) := haZ.trans (by kernel_rfl)
  subst eZ
  clear haZ
  replace RR : Hid (RB w w2 [(w.heap.size, (P9 x y false))]) := ⟨F.bw, (Rc (F.row 0 rfl) RowsAt.nil)⟩
  clear F qT q0
  go_wp2
  exact bodyPost_ret (v := (.string r)) (by simp [results, Tryd.results17, go_sem]) rfl ⟨rfl, RR.out.b⟩
set_option maxRecDepth 100000 in
set_option maxHeartbeats 4000000 in
theorem rwho_no (k : Nat) (hP : Does 8 #[(U k)] (.tuple #[(A9 0 0 false), (.int .i64 5)])) 
    (w : World) : Calls Tryd.prog 10 #[(U k)] w fun e w' => e = .returned (.tuple #[(.string { data := #[] }), (.int .i64 5)]) ∧ Below w.heap.size w w' := by
  go_enter Tryd.func10, Tryd.ntmps10
  go_upto_region 1 with fail
  refine name_world _ ?_
  intro wF hF0
  have RR : Hid (RB w wF [(w.heap.size, (Ar k))]) := by rw [hF0]; exact (rbN (rb0 w) (by simp))
  clear hF0
  obtain ⟨q0, qT⟩ := RR.out.r.lts
  refine wp_told [(w.heap.size, (Ar k))]
    [sV (U k),
     sV (.tuple #[(A9 0 0 false), (.int .i64 5)]),
     sV (.tuple #[(A9 0 0 false), (.int .i64 5)]),
     sV (A9 0 0 false),
     sV (.int .i64 5),
     sA (fun g => .pointer (some ⟨g, 0, none⟩)) 6 Z9 (P9 0 0 false),
     sS 5,
     sV (.int .i64 5)]
    RR.out.b (Rc (RR.out.at 0 rfl) RowsAt.nil) (StOk.of [] rfl StM.nil)
    (Obs.val (fun a' w' E => ob_la 24 (.tmp 1) (E.od 1) (E.row (g := w.heap.size) (c := (Ar k)) 0 rfl) Tryd.underlying24)
    (Obs.val (fun a' w' E => ob_fcall 8 _ _ rfl (am1 (E.n (U k) 7 0)) (fc8 _ _) (hP.out w'))
    (Obs.val (fun a' w' E => ob_move (.tmp 8) rfl (E.n (.tuple #[(A9 0 0 false), (.int .i64 5)]) 8 1))
    (Obs.val (fun a' w' E => ob_extract (.tmp 6) 0 rfl (E.n (.tuple #[(A9 0 0 false), (.int .i64 5)]) 6 2) rfl)
    (Obs.val (fun a' w' E => ob_extract (.tmp 6) 1 rfl (E.n (.tuple #[(A9 0 0 false), (.int .i64 5)]) 6 2) rfl)
    (Obs.alloc (fun a' w' E => ob_alloc (t := 26) (by simp [opAt, execOp, go_sem]))
    (Obs.sta rfl (fun a' w' g E ha hr => ob_sa 26 (.tmp 4) (.tmp 9) (ha 4 (by kernel_rfl)) (E.n (A9 0 0 false) 9 3) hr)
    (Obs.val (fun a' w' E => ob_assign (.tmp 10) rfl (E.n (.int .i64 5) 10 4))
    Obs.nil)))))))) ?_
  intro bs w1 aZ haZ F
  have eZ : aZ = (⟨#[(U k), (PT w.heap.size), (.string { data := #[] }), (.int .i64 0), (PT ((bs 5))), (.int .i64 5), (.tuple #[(A9 0 0 false), (.int .i64 5)]), (U k), (.tuple #[(A9 0 0 false), (.int .i64 5)]), (A9 0 0 false), (.int .i64 5), ud, ud, ud, ud, ud], []⟩ : Act) := haZ.trans (by kernel_rfl)
  subst eZ
  clear haZ
  obtain ⟨h5, X5⟩ := F.al 5 rfl rfl
  replace RR : Hid (RB w w1 [((bs 5), (P9 0 0 false)), (w.heap.size, (Ar k))]) := ⟨F.bw, (Rc X5 (Rc (F.row 0 rfl) RowsAt.nil))⟩
  generalize bs 5 = g1_5 at *
  have k1_5_0 := Nat.lt_of_lt_of_le q0 h5
  clear F qT q0 h5 X5
  clear wF
  go_upto_region 2 with fail
  obtain ⟨q1, q0, qT⟩ := RR.out.r.lts
  refine wp_told [(w.heap.size, (Ar k)), (g1_5, (P9 0 0 false))]
    [sV (.int .i64 5),
     sV (.bool true)]
    RR.out.b (Rc (RR.out.at 1 rfl) (Rc (RR.out.at 0 rfl) RowsAt.nil)) (StOk.of [] rfl StM.nil)
    (Obs.val (fun a' w' E => ob_move (.tmp 5) rfl (E.od 5))
    (Obs.val (fun a' w' E => ob_binOp .neq 3 (.tmp 11) (.const (.int .i64 0)) 3 rfl (E.n (.int .i64 5) 11 0) (evc a' (.int .i64 0)) (by simp [go_sem]))
    Obs.nil)) ?_
  intro bs w2 aZ haZ F
  have eZ : aZ = (⟨#[(U k), (PT w.heap.size), (.string { data := #[] }), (.int .i64 0), (PT g1_5), (.int .i64 5), (.tuple #[(A9 0 0 false), (.int .i64 5)]), (U k), (.tuple #[(A9 0 0 false), (.int .i64 5)]), (A9 0 0 false), (.int .i64 5), (.int .i64 5), (.bool true), ud, ud, ud], []⟩ : Act) := haZ.trans (by kernel_rfl)
  subst eZ
  clear haZ
  replace RR : Hid (RB w w2 [(g1_5, (P9 0 0 false)), (w.heap.size, (Ar k))]) := ⟨F.bw, (Rc (F.row 1 rfl) (Rc (F.row 0 rfl) RowsAt.nil))⟩
  clear F qT q0 q1
  go_upto_region 3 with fail
  obtain ⟨q1, q0, qT⟩ := RR.out.r.lts
  refine wp_told [(w.heap.size, (Ar k)), (g1_5, (P9 0 0 false))]
    [sV (.int .i64 5),
     sV (.string { data := #[] }),
     sV (.int .i64 5)]
    RR.out.b (Rc (RR.out.at 1 rfl) (Rc (RR.out.at 0 rfl) RowsAt.nil)) (StOk.of [] rfl StM.nil)
    (Obs.val (fun a' w' E => ob_move (.tmp 5) rfl (E.od 5))
    (Obs.val (fun a' w' E => ob_assign (.const (.string { data := #[] })) rfl (evc a' (.string { data := #[] })))
    (Obs.val (fun a' w' E => ob_assign (.tmp 13) rfl (E.n (.int .i64 5) 13 0))
    Obs.nil))) ?_
  intro bs w3 aZ haZ F
  have eZ : aZ = (⟨#[(U k), (PT w.heap.size), (.string { data := #[] }), (.int .i64 5), (PT g1_5), (.int .i64 5), (.tuple #[(A9 0 0 false), (.int .i64 5)]), (U k), (.tuple #[(A9 0 0 false), (.int .i64 5)]), (A9 0 0 false), (.int .i64 5), (.int .i64 5), (.bool true), (.int .i64 5), ud, ud], []⟩ : Act) := haZ.trans (by kernel_rfl)
  subst eZ
  clear haZ
  replace RR : Hid (RB w w3 [(g1_5, (P9 0 0 false)), (w.heap.size, (Ar k))]) := ⟨F.bw, (Rc (F.row 1 rfl) (Rc (F.row 0 rfl) RowsAt.nil))⟩
  clear F qT q0 q1
  go_wp2
  exact bodyPost_ret (v := (.tuple #[(.string { data := #[] }), (.int .i64 5)])) (by simp [results, Tryd.results10, go_sem]) rfl ⟨rfl, RR.out.b⟩
set_option maxRecDepth 100000 in
set_option maxHeartbeats 4000000 in
theorem rwho_yes (k px py : Nat) (pn : Bool) (s : ByteArray) (hP : Does 8 #[(U k)] (.tuple #[(A9 px py pn), (.int .i64 0)])) (hA : Does 17 #[(A9 px py pn)] (.string s)) 
    (w : World) : Calls Tryd.prog 10 #[(U k)] w fun e w' => e = .returned (.tuple #[(.string s), (.int .i64 0)]) ∧ Below w.heap.size w w' := by
  go_enter Tryd.func10, Tryd.ntmps10
  go_upto_region 1 with fail
  refine name_world _ ?_
  intro wF hF0
  have RR : Hid (RB w wF [(w.heap.size, (Ar k))]) := by rw [hF0]; exact (rbN (rb0 w) (by simp))
  clear hF0
  obtain ⟨q0, qT⟩ := RR.out.r.lts
  refine wp_told [(w.heap.size, (Ar k))]
    [sV (U k),
     sV (.tuple #[(A9 px py pn), (.int .i64 0)]),
     sV (.tuple #[(A9 px py pn), (.int .i64 0)]),
     sV (A9 px py pn),
     sV (.int .i64 0),
     sA (fun g => .pointer (some ⟨g, 0, none⟩)) 6 Z9 (P9 px py pn),
     sS 5,
     sV (.int .i64 0)]
    RR.out.b (Rc (RR.out.at 0 rfl) RowsAt.nil) (StOk.of [] rfl StM.nil)
    (Obs.val (fun a' w' E => ob_la 24 (.tmp 1) (E.od 1) (E.row (g := w.heap.size) (c := (Ar k)) 0 rfl) Tryd.underlying24)
    (Obs.val (fun a' w' E => ob_fcall 8 _ _ rfl (am1 (E.n (U k) 7 0)) (fc8 _ _) (hP.out w'))
    (Obs.val (fun a' w' E => ob_move (.tmp 8) rfl (E.n (.tuple #[(A9 px py pn), (.int .i64 0)]) 8 1))
    (Obs.val (fun a' w' E => ob_extract (.tmp 6) 0 rfl (E.n (.tuple #[(A9 px py pn), (.int .i64 0)]) 6 2) rfl)
    (Obs.val (fun a' w' E => ob_extract (.tmp 6) 1 rfl (E.n (.tuple #[(A9 px py pn), (.int .i64 0)]) 6 2) rfl)
    (Obs.alloc (fun a' w' E => ob_alloc (t := 26) (by simp [opAt, execOp, go_sem]))
    (Obs.sta rfl (fun a' w' g E ha hr => ob_sa 26 (.tmp 4) (.tmp 9) (ha 4 (by kernel_rfl)) (E.n (A9 px py pn) 9 3) hr)
    (Obs.val (fun a' w' E => ob_assign (.tmp 10) rfl (E.n (.int .i64 0) 10 4))
    Obs.nil)))))))) ?_
  intro bs w1 aZ haZ F
  have eZ : aZ = (⟨#[(U k), (PT w.heap.size), (.string { data := #[] }), (.int .i64 0), (PT ((bs 5))), (.int .i64 0), (.tuple #[(A9 px py pn), (.int .i64 0)]), (U k), (.tuple #[(A9 px py pn), (.int .i64 0)]), (A9 px py pn), (.int .i64 0), ud, ud, ud, ud, ud], []⟩ : Act) := haZ.trans (by kernel_rfl)
  subst eZ
  clear haZ
  obtain ⟨h5, X5⟩ := F.al 5 rfl rfl
  replace RR : Hid (RB w w1 [((bs 5), (P9 px py pn)), (w.heap.size, (Ar k))]) := ⟨F.bw, (Rc X5 (Rc (F.row 0 rfl) RowsAt.nil))⟩
  generalize bs 5 = g1_5 at *
  have k1_5_0 := Nat.lt_of_lt_of_le q0 h5
  clear F qT q0 h5 X5
  clear wF
  go_upto_region 2 with fail
  obtain ⟨q1, q0, qT⟩ := RR.out.r.lts
  refine wp_told [(w.heap.size, (Ar k)), (g1_5, (P9 px py pn))]
    [sV (.int .i64 0),
     sV (.bool false)]
    RR.out.b (Rc (RR.out.at 1 rfl) (Rc (RR.out.at 0 rfl) RowsAt.nil)) (StOk.of [] rfl StM.nil)
    (Obs.val (fun a' w' E => ob_move (.tmp 5) rfl (E.od 5))
    (Obs.val (fun a' w' E => ob_binOp .neq 3 (.tmp 11) (.const (.int .i64 0)) 3 rfl (E.n (.int .i64 0) 11 0) (evc a' (.int .i64 0)) (by simp [go_sem]))
    Obs.nil)) ?_
  intro bs w2 aZ haZ F
  have eZ : aZ = (⟨#[(U k), (PT w.heap.size), (.string { data := #[] }), (.int .i64 0), (PT g1_5), (.int .i64 0), (.tuple #[(A9 px py pn), (.int .i64 0)]), (U k), (.tuple #[(A9 px py pn), (.int .i64 0)]), (A9 px py pn), (.int .i64 0), (.int .i64 0), (.bool false), ud, ud, ud], []⟩ : Act) := haZ.trans (by kernel_rfl)
  subst eZ
  clear haZ
  replace RR : Hid (RB w w2 [(g1_5, (P9 px py pn)), (w.heap.size, (Ar k))]) := ⟨F.bw, (Rc (F.row 1 rfl) (Rc (F.row 0 rfl) RowsAt.nil))⟩
  clear F qT q0 q1
  go_upto_region 4 with fail
  obtain ⟨q1, q0, qT⟩ := RR.out.r.lts
  refine wp_told [(w.heap.size, (Ar k)), (g1_5, (P9 px py pn))]
    [sV (A9 px py pn),
     sV (.string s),
     sV (.string s),
     sV (.int .i64 0)]
    RR.out.b (Rc (RR.out.at 1 rfl) (Rc (RR.out.at 0 rfl) RowsAt.nil)) (StOk.of [] rfl StM.nil)
    (Obs.val (fun a' w' E => ob_la 26 (.tmp 4) (E.od 4) (E.row (g := g1_5) (c := (P9 px py pn)) 1 rfl) Tryd.underlying26)
    (Obs.val (fun a' w' E => ob_fcall 17 _ _ rfl (am1 (E.n (A9 px py pn) 14 0)) (fc17 _ _) (hA.out w'))
    (Obs.val (fun a' w' E => ob_assign (.tmp 15) rfl (E.n (.string s) 15 1))
    (Obs.val (fun a' w' E => ob_assign (.const (.int .i64 0)) rfl (evc a' (.int .i64 0)))
    Obs.nil)))) ?_
  intro bs w3 aZ haZ F
  have eZ : aZ = (⟨#[(U k), (PT w.heap.size), (.string s), (.int .i64 0), (PT g1_5), (.int .i64 0), (.tuple #[(A9 px py pn), (.int .i64 0)]), (U k), (.tuple #[(A9 px py pn), (.int .i64 0)]), (A9 px py pn), (.int .i64 0), (.int .i64 0), (.bool false), ud, (A9 px py pn), (.string s)], []⟩ : Act) := haZ.trans (by kernel_rfl)
  subst eZ
  clear haZ
  replace RR : Hid (RB w w3 [(g1_5, (P9 px py pn)), (w.heap.size, (Ar k))]) := ⟨F.bw, (Rc (F.row 1 rfl) (Rc (F.row 0 rfl) RowsAt.nil))⟩
  clear F qT q0 q1
  go_wp2
  exact bodyPost_ret (v := (.tuple #[(.string s), (.int .i64 0)])) (by simp [results, Tryd.results10, go_sem]) rfl ⟨rfl, RR.out.b⟩
end Go.Proofs.YtpdoonofipcbeaaDoor
namespace Go.Proofs.YtpdoonofipcbeaaDoor
open Go.RowKit Go.Sort
set_option linter.unusedVariables false
set_option maxRecDepth 100000 in
set_option maxHeartbeats 4000000 in
theorem awake_raw  (hK : DoesT 9 #[(.agg #[.int .u64 1, .int .u64 0, .int .u64 0, .int .u64 0])] (.tuple #[(.string gA), (.int .i64 0)])) 
    (w : World) (ht : Tabs w ki) : Calls Tryd.prog 18 #[] w fun e w' => e = .returned (.bool true) ∧ Below w.heap.size w w' := by
  have HT : Hid (Tabs w ki) := ht
  clear ht
  go_enter Tryd.func18, Tryd.ntmps18
  go_upto_region 1 with fail
  refine name_world _ ?_
  intro wF hF0
  have RR : Hid (RB w wF []) := by rw [hF0]; exact (rb0 w)
  clear hF0
  refine wp_told []
    [sV (.agg #[.int .u64 1, .int .u64 0, .int .u64 0, .int .u64 0]),
     sV (.tuple #[(.string gA), (.int .i64 0)]),
     sV (.tuple #[(.string gA), (.int .i64 0)]),
     sV (.string gA),
     sV (.int .i64 0),
     sV (.string gA),
     sV (.int .i64 0)]
    RR.out.b RowsAt.nil (StOk.of [] rfl StM.nil)
    (Obs.val (fun a' w' E => ob_build 24 _ rfl (pm1 (evc a' (.int .u64 1))) (bd24_0i _ w'))
    (Obs.val (fun a' w' E => ob_fcall 9 _ _ rfl (am1 (E.n (.agg #[.int .u64 1, .int .u64 0, .int .u64 0, .int .u64 0]) 4 0)) (fc9 _ _) (tbl hK HT.out E.bw w'))
    (Obs.val (fun a' w' E => ob_move (.tmp 5) rfl (E.n (.tuple #[(.string gA), (.int .i64 0)]) 5 1))
    (Obs.val (fun a' w' E => ob_extract (.tmp 3) 0 rfl (E.n (.tuple #[(.string gA), (.int .i64 0)]) 3 2) rfl)
    (Obs.val (fun a' w' E => ob_extract (.tmp 3) 1 rfl (E.n (.tuple #[(.string gA), (.int .i64 0)]) 3 2) rfl)
    (Obs.val (fun a' w' E => ob_assign (.tmp 6) rfl (E.n (.string gA) 6 3))
    (Obs.val (fun a' w' E => ob_assign (.tmp 7) rfl (E.n (.int .i64 0) 7 4))
    Obs.nil))))))) ?_
  intro bs w1 aZ haZ F
  have eZ : aZ = (⟨#[(.bool false), (.string gA), (.int .i64 0), (.tuple #[(.string gA), (.int .i64 0)]), (.agg #[.int .u64 1, .int .u64 0, .int .u64 0, .int .u64 0]), (.tuple #[(.string gA), (.int .i64 0)]), (.string gA), (.int .i64 0), ud, ud, ud, ud, ud, ud], []⟩ : Act) := haZ.trans (by kernel_rfl)
  subst eZ
  clear haZ
  replace RR : Hid (RB w w1 []) := ⟨F.bw, RowsAt.nil⟩
  clear F 
  clear wF
  go_upto_region 2 with fail
  refine wp_told []
    [sV (.int .i64 0),
     sV (.bool true),
     sV (.bool true),
     sV (.string gA),
     sV (.bool true),
     sV (.bool true),
     sV (.bool true)]
    RR.out.b RowsAt.nil (StOk.of [] rfl StM.nil)
    (Obs.val (fun a' w' E => ob_move (.tmp 2) rfl (E.od 2))
    (Obs.val (fun a' w' E => ob_binOp .eql 27 (.tmp 8) (.const (.int .i64 0)) 27 rfl (E.n (.int .i64 0) 8 0) (evc a' (.int .i64 0)) (by simp [go_sem]))
    (Obs.val (fun a' w' E => ob_move (.tmp 9) rfl (E.n (.bool true) 9 1))
    (Obs.gval rfl rfl (fun a' w' E => E.new 10 2 (by kernel_rfl) rfl) (fun a' w' E => ob_move (.tmp 1) rfl (E.od 1))
    (Obs.gval rfl rfl (fun a' w' E => E.new 10 2 (by kernel_rfl) rfl) (fun a' w' E => ob_binOp .eql 9 (.tmp 11) (.const (.string { data := #[126, 95, 69, 82, 9, 26, 105, 18, 93, 93, 252, 183, 184, 194, 101, 144, 41, 57, 91, 223] })) 9 rfl (E.n (.string gA) 11 3) (evc a' (.string { data := #[126, 95, 69, 82, 9, 26, 105, 18, 93, 93, 252, 183, 184, 194, 101, 144, 41, 57, 91, 223] })) (by simp [go_sem, gA]))
    (Obs.val (fun a' w' E => ob_pick (.tmp 10) (.tmp 12) (.const (.bool false)) rfl (E.n (.bool true) 10 2) (E.n (.bool true) 12 4))
    (Obs.val (fun a' w' E => ob_assign (.tmp 13) rfl (E.n (.bool true) 13 5))
    Obs.nil))))))) ?_
  intro bs w2 aZ haZ F
  have eZ : aZ = (⟨#[(.bool true), (.string gA), (.int .i64 0), (.tuple #[(.string gA), (.int .i64 0)]), (.agg #[.int .u64 1, .int .u64 0, .int .u64 0, .int .u64 0]), (.tuple #[(.string gA), (.int .i64 0)]), (.string gA), (.int .i64 0), (.int .i64 0), (.bool true), (.bool true), (.string gA), (.bool true), (.bool true)], []⟩ : Act) := haZ.trans (by kernel_rfl)
  subst eZ
  clear haZ
  replace RR : Hid (RB w w2 []) := ⟨F.bw, RowsAt.nil⟩
  clear F 
  go_wp2
  exact bodyPost_ret (v := (.bool true)) (by simp [results, Tryd.results18, go_sem]) rfl ⟨rfl, RR.out.b⟩
end Go.Proofs.YtpdoonofipcbeaaDoor
