import Derived.Test.YtfhppenjbmmadaaGreatDoorXwEu
import Derived.Test.YtfhppenjbmmadaaGreatDoorXwM13
namespace Go.Proofs.YtfhppenjbmmadaaGreatDoor
set_option linter.unusedVariables false
set_option maxHeartbeats 8000000
section
open Go.RowKit Go.Sort
attribute [local go_sem] run_eq4 run_eqU_same
set_option maxRecDepth 100000 in
theorem trivial_raw(m nb:Nat)(c1:Hid (∀ w,Calls Tryz.prog 135 #[U m] w fun e w'=>e=.returned (.int .i64 (nb:Nat))∧Below w.heap.size w w'))(w:World) :
  Calls Tryz.prog 128 #[U m] w fun e w'=>e=.returned (.bool (decide ((nb:Int)≤1)))∧Below w.heap.size w w':=by
 go_enter Tryz.func128,Tryz.ntmps128
 go_wp2_with fail
 refine (c1.out _).mono ?_
 rintro e w1 ⟨rfl,hb1⟩
 have B1:Hid (Below w.heap.size w w1):=bCl (by (repeat (first | exact Below.refl _ _ | refine bAl ?_ _))) hb1
 clear hb1
 go_wp2
 go_ret
 exact ⟨rfl,B1.out⟩
theorem bits_one(n:Nat)(h:n<W):((bitsN n:Int)≤1)↔n≤1:=by
 constructor
 ·intro h1
  have h2:=bitsN_lt n h
  have h3:2^bitsN n≤2^1:=Nat.pow_le_pow_right (by decide) (by omega)
  omega
 ·intro h1
  have:=bitsN_le n 1 (by omega)
  omega
theorem trivial_any(m:Nat)(h:m<W)(w:World):Calls Tryz.prog 128 #[U m] w fun e w'=>e=.returned (.bool (decide (m≤1)))∧Below w.heap.size w w':=by
 have h1:=trivial_raw m (bitsN m) (bits_any m) w
 rw[decide_eq_decide.2 (bits_one m h)] at h1
 exact h1
set_option maxRecDepth 100000 in
theorem inv_low(a m:Nat)(c1:Hid (∀ w,Calls Tryz.prog 128 #[U m] w fun e w'=>e=.returned (.bool true)∧Below w.heap.size w w'))(hm:m≤1)(w:World) :
  Calls Tryz.prog 100 #[U a,U m] w fun e w'=>(∃ x ok,IV a m x ok∧x<W∧e=.returned (.tuple #[U x,.bool ok]))∧Below w.heap.size w w':=by
 have HI:Hid (IV a m 0 false):=IV.low hm
 clear hm
 go_enter Tryz.func100,Tryz.ntmps100
 go_wp2_with fail
 refine (c1.out _).mono ?_
 rintro e w1 ⟨rfl,hb1⟩
 have R1:Hid (HRw w1 (w.heap.size+1+1) #[.int .u64 0,.int .u64 0,.int .u64 0,.int .u64 0]):=(HRw.last (by simp)).below hb1
 have B1:Hid (Below w.heap.size w w1):=bCl (by (repeat (first | exact Below.refl _ _ | refine bAl ?_ _))) hb1
 clear hb1
 have g0:w1.cell? ⟨w.heap.size+1+1,0,none⟩=some (.int .u64 0):=R1.out.cell 0
 have g1:w1.cell? ⟨w.heap.size+1+1,1,none⟩=some (.int .u64 0):=R1.out.cell 1
 have g2:w1.cell? ⟨w.heap.size+1+1,2,none⟩=some (.int .u64 0):=R1.out.cell 2
 have g3:w1.cell? ⟨w.heap.size+1+1,3,none⟩=some (.int .u64 0):=R1.out.cell 3
 have gz0:=R1.out.frozen 0
 have gz1:=R1.out.frozen 1
 have gz2:=R1.out.frozen 2
 have gz3:=R1.out.frozen 3
 have gq:=R1.out.lt
 go_wp2
 rw[set4 R1.out rfl]
 exact bodyPost_ret (v:=.tuple #[I4 0 0 0 0,.bool false]) (results_c1t (p:=4) (r:=5) (ty:=24) rfl (g:=w.heap.size+1+1) rfl rfl (HRw.set_same R1.out _) rfl Tryz.underlying24 (by kernel_rfl)) rfl ⟨⟨0,false,HI.out,W_pos,by rw[U_zero]⟩,bSR B1.out (by omega) _⟩
set_option maxRecDepth 100000 in
theorem inv_main(a m:Nat)(h1:1<m)(hmW:m<W)(c1:Hid (∀ w,Calls Tryz.prog 128 #[U m] w fun e w'=>e=.returned (.bool false)∧Below w.heap.size w w'))(ce:Hid (∀ w,Calls Tryz.prog 129 #[U a,U m] w fun e w'=>(∃ dv ts nx un,EI a m dv 0 ts nx un∧dv<W∧e=.returned (.tuple #[U dv,U ts,.bool un]))∧Below w.heap.size w w'))(co:Hid (∀ w,Calls Tryz.prog 66 #[.int .u64 1] w fun e w'=>e=.returned (I4 1 0 0 0)∧Below w.heap.size w w'))(cq:Hid (∀ x,x<W→∀ w,(Op.equalIn 10000 24 (U x) (I4 1 0 0 0)).run Tryz.prog w=.ok (decide (x=1)) w))(cs:Hid (∀ x,x≤m→∀ w,Calls Tryz.prog 106 #[U m,U x] w fun e w'=>e=.returned (.tuple #[U (m-x),.bool false])∧Below w.heap.size w w'))(w:World) :
  Calls Tryz.prog 100 #[U a,U m] w fun e w'=>(∃ x ok,IV a m x ok∧x<W∧e=.returned (.tuple #[U x,.bool ok]))∧Below w.heap.size w w':=by
 have HM:Hid (1<m∧m<W):=⟨h1,hmW⟩
 clear h1 hmW
 go_enter Tryz.func100,Tryz.ntmps100
 go_wp2_with fail
 refine (c1.out _).mono ?_
 rintro e w1 ⟨rfl,hb1⟩
 have Ra:Hid (HRw w1 (w.heap.size) #[B (l0 a),B (l1 a),B (l2 a),B (l3 a)]):=(HRw.old (HRw.old (HRw.last (by simp)))).below hb1
 have Rm:Hid (HRw w1 (w.heap.size+1) #[B (l0 m),B (l1 m),B (l2 m),B (l3 m)]):=(HRw.old (HRw.last (by simp))).below hb1
 have Rr:Hid (HRw w1 (w.heap.size+1+1) #[.int .u64 0,.int .u64 0,.int .u64 0,.int .u64 0]):=(HRw.last (by simp)).below hb1
 have B1:Hid (Below w.heap.size w w1):=bCl (by (repeat (first | exact Below.refl _ _ | refine bAl ?_ _))) hb1
 have a0:w1.cell? ⟨w.heap.size,0,none⟩=some (B (l0 a)):=Ra.out.cell 0
 have a1:w1.cell? ⟨w.heap.size,1,none⟩=some (B (l1 a)):=Ra.out.cell 1
 have a2:w1.cell? ⟨w.heap.size,2,none⟩=some (B (l2 a)):=Ra.out.cell 2
 have a3:w1.cell? ⟨w.heap.size,3,none⟩=some (B (l3 a)):=Ra.out.cell 3
 have m0:w1.cell? ⟨w.heap.size+1,0,none⟩=some (B (l0 m)):=Rm.out.cell 0
 have m1:w1.cell? ⟨w.heap.size+1,1,none⟩=some (B (l1 m)):=Rm.out.cell 1
 have m2:w1.cell? ⟨w.heap.size+1,2,none⟩=some (B (l2 m)):=Rm.out.cell 2
 have m3:w1.cell? ⟨w.heap.size+1,3,none⟩=some (B (l3 m)):=Rm.out.cell 3
 clear hb1
 go_wp2_with fail
 refine (ce.out _).mono ?_
 rintro e w2 ⟨⟨dv,ts,nx,un,hE,hdW,rfl⟩,hb2⟩
 have KE:Hid _:=hE
 have Rm2:Hid (HRw w2 (w.heap.size+1) #[B (l0 m),B (l1 m),B (l2 m),B (l3 m)]):=Rm.out.below hb2
 have Rr2:Hid (HRw w2 (w.heap.size+1+1) #[.int .u64 0,.int .u64 0,.int .u64 0,.int .u64 0]):=Rr.out.below hb2
 have B2:Hid (Below w.heap.size w w2):=bCl B1.out hb2
 have hq2:w.heap.size+1+1<w2.heap.size:=Rr2.out.lt
 have he:=cq.out dv hdW
 clear hb2 Ra Rm Rr B1 hE a0 a1 a2 a3 m0 m1 m2 m3
 by_cases hd1:dv=1
 ·rw[decide_eq_true hd1] at he
  have HD1:Hid (dv=1):=hd1
  clear hd1
  go_upto_region 4 with fail
  refine name_world _ ?_
  intro wF hF
  have Fm:Hid (HRw wF (w.heap.size+1) #[B (l0 m),B (l1 m),B (l2 m),B (l3 m)]):=by rw[hF];exact (HRw.old (HRw.old Rm2.out))
  have Fr:Hid (HRw wF (w.heap.size+1+1) #[.int .u64 0,.int .u64 0,.int .u64 0,.int .u64 0]):=by rw[hF];exact (HRw.old (HRw.old Rr2.out))
  have Ft:Hid (HRw wF (w2.heap.size+1) #[B (l0 ts),B (l1 ts),B (l2 ts),B (l3 ts)]):=by rw[hF];exact HRw.last (by simp)
  have Fd:HRw wF w2.heap.size #[B (l0 dv),B (l1 dv),B (l2 dv),B (l3 dv)]:=by rw[hF];exact (HRw.old (HRw.last rfl))
  have FB:Hid (Below w.heap.size w wF):=by rw[hF];exact bAl (bAl B2.out _) _
  have d0:wF.cell? ⟨w2.heap.size,0,none⟩=some (B (l0 dv)):=Fd.cell 0
  have d1:wF.cell? ⟨w2.heap.size,1,none⟩=some (B (l1 dv)):=Fd.cell 1
  have d2:wF.cell? ⟨w2.heap.size,2,none⟩=some (B (l2 dv)):=Fd.cell 2
  have d3:wF.cell? ⟨w2.heap.size,3,none⟩=some (B (l3 dv)):=Fd.cell 3
  clear hF Fd
  replace d0:=cell_regrown d0
  replace d1:=cell_regrown d1
  replace d2:=cell_regrown d2
  replace d3:=cell_regrown d3
  refine wp_region_quiet_below (by kernel_rfl) (by kernel_rfl) ?_
  repeat (go_big_quiet_step (fail))
  go_big_quiet_step ((exact Calls.regrown_of (co.out _)))
  repeat (go_big_quiet_step (fail))
  refine wpQuiet_nil ?_
  intro _ hw'
  obtain ⟨⟨dq',osq⟩,hw''⟩:=hw'
  subst hw''
  have hbq:=below_regrown wF dq' osq
  have Gm:Hid (HRw (grow (redrawn wF dq') osq) (w.heap.size+1) #[B (l0 m),B (l1 m),B (l2 m),B (l3 m)]):=Fm.out.below hbq
  have Gr:Hid (HRw (grow (redrawn wF dq') osq) (w.heap.size+1+1) #[.int .u64 0,.int .u64 0,.int .u64 0,.int .u64 0]):=Fr.out.below hbq
  have Gt:Hid (HRw (grow (redrawn wF dq') osq) (w2.heap.size+1) #[B (l0 ts),B (l1 ts),B (l2 ts),B (l3 ts)]):=Ft.out.below hbq
  have GB:Hid (Below w.heap.size w (grow (redrawn wF dq') osq)):=bCl FB.out hbq
  clear hbq Fm Fr Ft FB d0 d1 d2 d3 Rm2 Rr2 B2 he
  generalize grow (redrawn wF dq') osq=wG at *
  have hts:ts≤m:=KE.out.t
  have HI:IV a m (if un=true then m-ts else ts) true:=EI.inv HM.out.1 (by have:=KE.out;rwa [HD1.out] at this)
  have htW:ts<W:=Nat.lt_of_le_of_lt hts HM.out.2
  cases un
  ·have KI:Hid (IV a m ts true):=HI
   clear HI
   have t0:wG.cell? ⟨w2.heap.size+1,0,none⟩=some (B (l0 ts)):=Gt.out.cell 0
   have t1:wG.cell? ⟨w2.heap.size+1,1,none⟩=some (B (l1 ts)):=Gt.out.cell 1
   have t2:wG.cell? ⟨w2.heap.size+1,2,none⟩=some (B (l2 ts)):=Gt.out.cell 2
   have t3:wG.cell? ⟨w2.heap.size+1,3,none⟩=some (B (l3 ts)):=Gt.out.cell 3
   have tq:=Gt.out.lt
   have g0:wG.cell? ⟨w.heap.size+1+1,0,none⟩=some (.int .u64 0):=Gr.out.cell 0
   have g1:wG.cell? ⟨w.heap.size+1+1,1,none⟩=some (.int .u64 0):=Gr.out.cell 1
   have g2:wG.cell? ⟨w.heap.size+1+1,2,none⟩=some (.int .u64 0):=Gr.out.cell 2
   have g3:wG.cell? ⟨w.heap.size+1+1,3,none⟩=some (.int .u64 0):=Gr.out.cell 3
   have gz0:=Gr.out.frozen 0
   have gz1:=Gr.out.frozen 1
   have gz2:=Gr.out.frozen 2
   have gz3:=Gr.out.frozen 3
   have gq:=Gr.out.lt
   go_wp2
   rw[set4 Gr.out rfl]
   exact bodyPost_ret (v:=.tuple #[U ts,.bool true]) (results_c1t (p:=4) (r:=5) (ty:=24) rfl (g:=w.heap.size+1+1) rfl rfl (HRw.set_same Gr.out _) rfl Tryz.underlying24 (by kernel_rfl)) rfl ⟨⟨ts,true,KI.out,htW,rfl⟩,bSR GB.out (by omega) _⟩
  ·have KI:Hid (IV a m (m-ts) true):=HI
   have hxW:m-ts<W:=Nat.lt_of_le_of_lt (Nat.sub_le _ _) HM.out.2
   have cs':Hid (∀ w,Calls Tryz.prog 106 #[U m,U ts] w fun e w'=>e=.returned (.tuple #[U (m-ts),.bool false])∧Below w.heap.size w w'):=cs.out ts hts
   obtain ⟨x,hx⟩:∃ x,x=m-ts:=⟨_,rfl⟩
   rw[← hx] at cs' KI hxW
   clear HI hx
   have t0:wG.cell? ⟨w2.heap.size+1,0,none⟩=some (B (l0 ts)):=Gt.out.cell 0
   have t1:wG.cell? ⟨w2.heap.size+1,1,none⟩=some (B (l1 ts)):=Gt.out.cell 1
   have t2:wG.cell? ⟨w2.heap.size+1,2,none⟩=some (B (l2 ts)):=Gt.out.cell 2
   have t3:wG.cell? ⟨w2.heap.size+1,3,none⟩=some (B (l3 ts)):=Gt.out.cell 3
   have m0:wG.cell? ⟨w.heap.size+1,0,none⟩=some (B (l0 m)):=Gm.out.cell 0
   have m1:wG.cell? ⟨w.heap.size+1,1,none⟩=some (B (l1 m)):=Gm.out.cell 1
   have m2:wG.cell? ⟨w.heap.size+1,2,none⟩=some (B (l2 m)):=Gm.out.cell 2
   have m3:wG.cell? ⟨w.heap.size+1,3,none⟩=some (B (l3 m)):=Gm.out.cell 3
   go_wp2_with fail
   refine (cs'.out _).mono ?_
   rintro e w5 ⟨rfl,hb5⟩
   have Hr:Hid (HRw w5 (w.heap.size+1+1) #[.int .u64 0,.int .u64 0,.int .u64 0,.int .u64 0]):=Gr.out.below hb5
   have Ht:Hid (HRw w5 (w2.heap.size+1) #[B (l0 ts),B (l1 ts),B (l2 ts),B (l3 ts)]):=Gt.out.below hb5
   have HB:Hid (Below w.heap.size w w5):=bCl GB.out hb5
   clear hb5 Gr Gt Gm GB t0 t1 t2 t3 m0 m1 m2 m3
   have g0:w5.cell? ⟨w2.heap.size+1,0,none⟩=some (B (l0 ts)):=Ht.out.cell 0
   have g1:w5.cell? ⟨w2.heap.size+1,1,none⟩=some (B (l1 ts)):=Ht.out.cell 1
   have g2:w5.cell? ⟨w2.heap.size+1,2,none⟩=some (B (l2 ts)):=Ht.out.cell 2
   have g3:w5.cell? ⟨w2.heap.size+1,3,none⟩=some (B (l3 ts)):=Ht.out.cell 3
   have gz0:=Ht.out.frozen 0
   have gz1:=Ht.out.frozen 1
   have gz2:=Ht.out.frozen 2
   have gz3:=Ht.out.frozen 3
   have gq:=Ht.out.lt
   go_upto_region 8 with fail
   rw[set4 Ht.out rfl]
   have It:Hid (HRw (w5.setRow (w2.heap.size+1) #[B (l0 x),B (l1 x),B (l2 x),B (l3 x)]) (w2.heap.size+1) #[B (l0 x),B (l1 x),B (l2 x),B (l3 x)]):=Ht.out.set_same _
   have Ir:Hid (HRw (w5.setRow (w2.heap.size+1) #[B (l0 x),B (l1 x),B (l2 x),B (l3 x)]) (w.heap.size+1+1) #[.int .u64 0,.int .u64 0,.int .u64 0,.int .u64 0]):=Hr.out.set_other _ (by omega)
   have IB:Hid (Below w.heap.size w (w5.setRow (w2.heap.size+1) #[B (l0 x),B (l1 x),B (l2 x),B (l3 x)])):=bSR HB.out (by omega) _
   clear Hr Ht HB g0 g1 g2 g3 gz0 gz1 gz2 gz3 gq
   generalize w5.setRow (w2.heap.size+1) #[B (l0 x),B (l1 x),B (l2 x),B (l3 x)]=w6 at *
   have t0:w6.cell? ⟨w2.heap.size+1,0,none⟩=some (B (l0 x)):=It.out.cell 0
   have t1:w6.cell? ⟨w2.heap.size+1,1,none⟩=some (B (l1 x)):=It.out.cell 1
   have t2:w6.cell? ⟨w2.heap.size+1,2,none⟩=some (B (l2 x)):=It.out.cell 2
   have t3:w6.cell? ⟨w2.heap.size+1,3,none⟩=some (B (l3 x)):=It.out.cell 3
   have tq:=It.out.lt
   have g0:w6.cell? ⟨w.heap.size+1+1,0,none⟩=some (.int .u64 0):=Ir.out.cell 0
   have g1:w6.cell? ⟨w.heap.size+1+1,1,none⟩=some (.int .u64 0):=Ir.out.cell 1
   have g2:w6.cell? ⟨w.heap.size+1+1,2,none⟩=some (.int .u64 0):=Ir.out.cell 2
   have g3:w6.cell? ⟨w.heap.size+1+1,3,none⟩=some (.int .u64 0):=Ir.out.cell 3
   have gz0:=Ir.out.frozen 0
   have gz1:=Ir.out.frozen 1
   have gz2:=Ir.out.frozen 2
   have gz3:=Ir.out.frozen 3
   have gq:=Ir.out.lt
   go_wp2
   rw[set4 Ir.out rfl]
   exact bodyPost_ret (v:=.tuple #[U x,.bool true]) (results_c1t (p:=4) (r:=5) (ty:=24) rfl (g:=w.heap.size+1+1) rfl rfl (HRw.set_same Ir.out _) rfl Tryz.underlying24 (by kernel_rfl)) rfl ⟨⟨x,true,KI.out,hxW,rfl⟩,bSR IB.out (by omega) _⟩
 ·rw[decide_eq_false hd1] at he
  go_upto_region 4 with fail
  refine name_world _ ?_
  intro wF hF
  have Fm:Hid (HRw wF (w.heap.size+1) #[B (l0 m),B (l1 m),B (l2 m),B (l3 m)]):=by rw[hF];exact (HRw.old (HRw.old Rm2.out))
  have Fr:Hid (HRw wF (w.heap.size+1+1) #[.int .u64 0,.int .u64 0,.int .u64 0,.int .u64 0]):=by rw[hF];exact (HRw.old (HRw.old Rr2.out))
  have Ft:Hid (HRw wF (w2.heap.size+1) #[B (l0 ts),B (l1 ts),B (l2 ts),B (l3 ts)]):=by rw[hF];exact HRw.last (by simp)
  have Fd:HRw wF w2.heap.size #[B (l0 dv),B (l1 dv),B (l2 dv),B (l3 dv)]:=by rw[hF];exact (HRw.old (HRw.last rfl))
  have FB:Hid (Below w.heap.size w wF):=by rw[hF];exact bAl (bAl B2.out _) _
  have d0:wF.cell? ⟨w2.heap.size,0,none⟩=some (B (l0 dv)):=Fd.cell 0
  have d1:wF.cell? ⟨w2.heap.size,1,none⟩=some (B (l1 dv)):=Fd.cell 1
  have d2:wF.cell? ⟨w2.heap.size,2,none⟩=some (B (l2 dv)):=Fd.cell 2
  have d3:wF.cell? ⟨w2.heap.size,3,none⟩=some (B (l3 dv)):=Fd.cell 3
  clear hF Fd
  replace d0:=cell_regrown d0
  replace d1:=cell_regrown d1
  replace d2:=cell_regrown d2
  replace d3:=cell_regrown d3
  refine wp_region_quiet_below (by kernel_rfl) (by kernel_rfl) ?_
  repeat (go_big_quiet_step (fail))
  go_big_quiet_step ((exact Calls.regrown_of (co.out _)))
  repeat (go_big_quiet_step (fail))
  refine wpQuiet_nil ?_
  intro _ hw'
  obtain ⟨⟨dq',osq⟩,hw''⟩:=hw'
  subst hw''
  have hbq:=below_regrown wF dq' osq
  have Gm:Hid (HRw (grow (redrawn wF dq') osq) (w.heap.size+1) #[B (l0 m),B (l1 m),B (l2 m),B (l3 m)]):=Fm.out.below hbq
  have Gr:Hid (HRw (grow (redrawn wF dq') osq) (w.heap.size+1+1) #[.int .u64 0,.int .u64 0,.int .u64 0,.int .u64 0]):=Fr.out.below hbq
  have Gt:Hid (HRw (grow (redrawn wF dq') osq) (w2.heap.size+1) #[B (l0 ts),B (l1 ts),B (l2 ts),B (l3 ts)]):=Ft.out.below hbq
  have GB:Hid (Below w.heap.size w (grow (redrawn wF dq') osq)):=bCl FB.out hbq
  clear hbq Fm Fr Ft FB d0 d1 d2 d3 Rm2 Rr2 B2 he
  generalize grow (redrawn wF dq') osq=wG at *
  have KI:Hid (IV a m 0 false):=IV.none (by rw[← KE.out.stop];exact hd1)
  have g0:wG.cell? ⟨w.heap.size+1+1,0,none⟩=some (.int .u64 0):=Gr.out.cell 0
  have g1:wG.cell? ⟨w.heap.size+1+1,1,none⟩=some (.int .u64 0):=Gr.out.cell 1
  have g2:wG.cell? ⟨w.heap.size+1+1,2,none⟩=some (.int .u64 0):=Gr.out.cell 2
  have g3:wG.cell? ⟨w.heap.size+1+1,3,none⟩=some (.int .u64 0):=Gr.out.cell 3
  have gz0:=Gr.out.frozen 0
  have gz1:=Gr.out.frozen 1
  have gz2:=Gr.out.frozen 2
  have gz3:=Gr.out.frozen 3
  have gq:=Gr.out.lt
  go_wp2
  rw[set4 Gr.out rfl]
  exact bodyPost_ret (v:=.tuple #[I4 0 0 0 0,.bool false]) (results_c1t (p:=4) (r:=5) (ty:=24) rfl (g:=w.heap.size+1+1) rfl rfl (HRw.set_same Gr.out _) rfl Tryz.underlying24 (by kernel_rfl)) rfl ⟨⟨0,false,KI.out,W_pos,by rw[U_zero]⟩,bSR GB.out (by omega) _⟩
theorem eqU_lit(x y:Nat)(hx:x<W)(hy:y<W)(v:Value)(hv:U y=v)(w:World):(Op.equalIn 10000 24 (U x) v).run Tryz.prog w=.ok (decide (x=y)) w:=by
 rw[← hv];exact run_eqU x y hx hy w
theorem inv_any(a m:Nat)(ha:a<W)(hm:m<W)(w:World):Calls Tryz.prog 100 #[U a,U m] w fun e w'=>(∃ x ok,IV a m x ok∧x<W∧e=.returned (.tuple #[U x,.bool ok]))∧Below w.heap.size w w':=by
 have ht:=trivial_any m hm
 rcases Nat.lt_or_ge 1 m with h1 | h1
 ·refine inv_main a m h1 hm (fun w=>?_) (fun w=>?_) (fun w=>?_) (fun x hx w=>eqU_lit x 1 hx (by decide +kernel) _ U_1 w) (fun x hx w=>?_) w
  ·have h:=ht w
   rw[decide_eq_false (by omega)] at h
   exact h
  ·refine euclid_raw a m ha hm (by omega) (fun w=>?_) (fun x y hx hy h0 w=>?_) (fun x y hx hy hxy w=>?_) (fun x y hx hy hxy w=>?_) (fun x hx w=>eqU_lit x 0 hx W_pos _ U_zero w) w
   ·have h:=of_any 1 (by decide) w
    rw[U_1] at h
    exact h
   ·have h:=div_any x y hx hy w
    have e:dr 0 x y=x%y:=by unfold dr;rw[if_neg (by omega),Nat.zero_mul,Nat.zero_add]
    rw[e] at h
    exact h
   ·have h:=mul_any x y hx hy w
    rw[Nat.mod_eq_of_lt hxy] at h
    exact h
   ·have h:=add_any x y hx hy w
    have e1:addW x y=x+y:=Nat.mod_eq_of_lt hxy
    have e2:ovW x y=false:=decide_eq_false (by omega)
    rw[e1,e2] at h
    exact h
  ·have h:=of_any 1 (by decide) w
   rw[U_1] at h
   exact h
  ·have h:=sub_any m x hm (Nat.lt_of_le_of_lt hx hm) w
   have e1:subW m x=m-x:=by
    unfold subW
    rw[show m+W-x=(m-x)+W by omega,Nat.add_mod_right,Nat.mod_eq_of_lt (by omega)]
   have e2:unW m x=false:=decide_eq_false (by omega)
   rw[e1,e2] at h
   exact h
 ·refine inv_low a m (fun w=>?_) h1 w
  have h:=ht w
  rw[decide_eq_true h1] at h
  exact h
end
section
open Go.RowKit Go.Sort
attribute [local go_sem] run_eq4 run_eqU_same
structure DS (w w':World) (b8 b9 b10 b11 m r od t bf:Nat):Prop where
 rm:HRw w' (w.heap.size+1) #[B (l0 m),B (l1 m),B (l2 m),B (l3 m)]
 rr:HRw w' (w.heap.size+1+1) #[.int .u64 0,.int .u64 0,.int .u64 0,.int .u64 0]
 ro:HRw w' (w.heap.size+1+1+1) #[.int .u64 1,.int .u64 0,.int .u64 0,.int .u64 0]
 r8:HRw w' (b8) #[B (l0 r),B (l1 r),B (l2 r),B (l3 r)]
 r9:HRw w' (b9) #[B (l0 od),B (l1 od),B (l2 od),B (l3 od)]
 r10:HRw w' (b10) #[B (l0 t),B (l1 t),B (l2 t),B (l3 t)]
 r11:HRw w' (b11) #[B (l0 bf),B (l1 bf),B (l2 bf),B (l3 bf)]
 bw:Below w.heap.size w w'
 o1:w.heap.size+1+1+1<b8
 o2:b8<b9
 o3:b9<b10
 o4:b10<b11
theorem DS.call{w w' w'':World}{b8 b9 b10 b11 m r od t bf:Nat}(h:DS w w' b8 b9 b10 b11 m r od t bf)(hb:Below w'.heap.size w' w''):DS w w'' b8 b9 b10 b11 m r od t bf:=
 ⟨h.rm.below hb,h.rr.below hb,h.ro.below hb,h.r8.below hb,h.r9.below hb,h.r10.below hb,h.r11.below hb,h.bw.trans (hb.mono h.bw.size),h.o1,h.o2,h.o3,h.o4⟩
theorem DS.alloc{w w':World}{b8 b9 b10 b11 m r od t bf:Nat}(h:DS w w' b8 b9 b10 b11 m r od t bf)(o:Obj):DS w (w'.alloc o) b8 b9 b10 b11 m r od t bf:=
 ⟨h.rm.old,h.rr.old,h.ro.old,h.r8.old,h.r9.old,h.r10.old,h.r11.old,bAl h.bw _,h.o1,h.o2,h.o3,h.o4⟩
end
end Go.Proofs.YtfhppenjbmmadaaGreatDoor
