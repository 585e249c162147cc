import Derived.Test.YtfhppenjbmmadaaGreatDoorXmEu
import Derived.Test.YtfhppenjbmmadaaGreatDoorXmM13
namespace Go.Proofs.YtfhppenjbmmadaaGreatDoor
set_option linter.unusedVariables false
set_option maxHeartbeats 8000000
section
open Go.RowKit Go.Sort
attribute [local go_sem] run_eq4 run_eqU_same
set_option maxRecDepth 100000 in
theorem trivial_raw(m nb:Nat)(c1:Hid (∀ w,Calls Tryz.prog 135 #[U m] w fun e w'=>e=.returned (.int .i64 (nb:Nat))∧Below w.heap.size w w'))(w:World) :
  Calls Tryz.prog 128 #[U m] w fun e w'=>e=.returned (.bool (decide ((nb:Int)≤1)))∧Below w.heap.size w w':=by
 go_enter Tryz.func128,Tryz.ntmps128
 go_wp2_with fail
 refine (c1.out _).mono ?_
 rintro e w1 ⟨rfl,hb1⟩
 have B1:Hid (Below w.heap.size w w1):=bCl (by (repeat (first | exact Below.refl _ _ | refine bAl ?_ _))) hb1
 clear hb1
 go_wp2
 go_ret
 exact ⟨rfl,B1.out⟩
theorem bits_one(n:Nat)(h:n<W):((bitsN n:Int)≤1)↔n≤1:=by
 constructor
 ·intro h1
  have h2:=bitsN_lt n h
  have h3:2^bitsN n≤2^1:=Nat.pow_le_pow_right (by decide) (by omega)
  omega
 ·intro h1
  have:=bitsN_le n 1 (by omega)
  omega
theorem trivial_any(m:Nat)(h:m<W)(w:World):Calls Tryz.prog 128 #[U m] w fun e w'=>e=.returned (.bool (decide (m≤1)))∧Below w.heap.size w w':=by
 have h1:=trivial_raw m (bitsN m) (bits_any m) w
 rw[decide_eq_decide.2 (bits_one m h)] at h1
 exact h1
set_option maxRecDepth 100000 in
theorem inv_low(a m:Nat)(c1:Hid (∀ w,Calls Tryz.prog 128 #[U m] w fun e w'=>e=.returned (.bool true)∧Below w.heap.size w w'))(hm:m≤1)(w:World) :
  Calls Tryz.prog 100 #[U a,U m] w fun e w'=>(∃ x ok,IV a m x ok∧x<W∧e=.returned (.tuple #[U x,.bool ok]))∧Below w.heap.size w w':=by
 have HI:Hid (IV a m 0 false):=IV.low hm
 clear hm
 go_enter Tryz.func100,Tryz.ntmps100
 go_wp2_with fail
 refine (c1.out _).mono ?_
 rintro e w1 ⟨rfl,hb1⟩
 have R1:Hid (HRw w1 (w.heap.size+1+1) #[.int .u64 0,.int .u64 0,.int .u64 0,.int .u64 0]):=(HRw.last (by simp)).below hb1
 have B1:Hid (Below w.heap.size w w1):=bCl (by (repeat (first | exact Below.refl _ _ | refine bAl ?_ _))) hb1
 clear hb1
 have g0:w1.cell? ⟨w.heap.size+1+1,0,none⟩=some (.int .u64 0):=R1.out.cell 0
 have g1:w1.cell? ⟨w.heap.size+1+1,1,none⟩=some (.int .u64 0):=R1.out.cell 1
 have g2:w1.cell? ⟨w.heap.size+1+1,2,none⟩=some (.int .u64 0):=R1.out.cell 2
 have g3:w1.cell? ⟨w.heap.size+1+1,3,none⟩=some (.int .u64 0):=R1.out.cell 3
 have gz0:=R1.out.frozen 0
 have gz1:=R1.out.frozen 1
 have gz2:=R1.out.frozen 2
 have gz3:=R1.out.frozen 3
 have gq:=R1.out.lt
 go_wp2
 rw[set4 R1.out rfl]
 exact bodyPost_ret (v:=.tuple #[I4 0 0 0 0,.bool false]) (results_c1t (p:=4) (r:=5) (ty:=24) rfl (g:=w.heap.size+1+1) rfl rfl (HRw.set_same R1.out _) rfl Tryz.underlying24 (by kernel_rfl)) rfl ⟨⟨0,false,HI.out,W_pos,by rw[U_zero]⟩,bSR B1.out (by omega) _⟩
set_option maxRecDepth 100000 in
theorem inv_main(a m:Nat)(h1:1<m)(hmW:m<W)(c1:Hid (∀ w,Calls Tryz.prog 128 #[U m] w fun e w'=>e=.returned (.bool false)∧Below w.heap.size w w'))(ce:Hid (∀ w,Calls Tryz.prog 129 #[U a,U m] w fun e w'=>(∃ dv ts nx un,EI a m dv 0 ts nx un∧dv<W∧e=.returned (.tuple #[U dv,U ts,.bool un]))∧Below w.heap.size w w'))(co:Hid (∀ w,Calls Tryz.prog 66 #[.int .u64 1] w fun e w'=>e=.returned (I4 1 0 0 0)∧Below w.heap.size w w'))(cq:Hid (∀ x,x<W→∀ w,(Op.equalIn 10000 24 (U x) (I4 1 0 0 0)).run Tryz.prog w=.ok (decide (x=1)) w))(cs:Hid (∀ x,x≤m→∀ w,Calls Tryz.prog 106 #[U m,U x] w fun e w'=>e=.returned (.tuple #[U (m-x),.bool false])∧Below w.heap.size w w'))(w:World) :
  Calls Tryz.prog 100 #[U a,U m] w fun e w'=>(∃ x ok,IV a m x ok∧x<W∧e=.returned (.tuple #[U x,.bool ok]))∧Below w.heap.size w w':=by
 have HM:Hid (1<m∧m<W):=⟨h1,hmW⟩
 clear h1 hmW
 go_enter Tryz.func100,Tryz.ntmps100
 go_wp2_with fail
 refine (c1.out _).mono ?_
 rintro e w1 ⟨rfl,hb1⟩
 have Ra:Hid (HRw w1 (w.heap.size) #[B (l0 a),B (l1 a),B (l2 a),B (l3 a)]):=(HRw.old (HRw.old (HRw.last (by simp)))).below hb1
 have Rm:Hid (HRw w1 (w.heap.size+1) #[B (l0 m),B (l1 m),B (l2 m),B (l3 m)]):=(HRw.old (HRw.last (by simp))).below hb1
 have Rr:Hid (HRw w1 (w.heap.size+1+1) #[.int .u64 0,.int .u64 0,.int .u64 0,.int .u64 0]):=(HRw.last (by simp)).below hb1
 have B1:Hid (Below w.heap.size w w1):=bCl (by (repeat (first | exact Below.refl _ _ | refine bAl ?_ _))) hb1
 have a0:w1.cell? ⟨w.heap.size,0,none⟩=some (B (l0 a)):=Ra.out.cell 0
 have a1:w1.cell? ⟨w.heap.size,1,none⟩=some (B (l1 a)):=Ra.out.cell 1
 have a2:w1.cell? ⟨w.heap.size,2,none⟩=some (B (l2 a)):=Ra.out.cell 2
 have a3:w1.cell? ⟨w.heap.size,3,none⟩=some (B (l3 a)):=Ra.out.cell 3
 have m0:w1.cell? ⟨w.heap.size+1,0,none⟩=some (B (l0 m)):=Rm.out.cell 0
 have m1:w1.cell? ⟨w.heap.size+1,1,none⟩=some (B (l1 m)):=Rm.out.cell 1
 have m2:w1.cell? ⟨w.heap.size+1,2,none⟩=some (B (l2 m)):=Rm.out.cell 2
 have m3:w1.cell? ⟨w.heap.size+1,3,none⟩=some (B (l3 m)):=Rm.out.cell 3
 clear hb1
 go_wp2_with fail
 refine (ce.out _).mono ?_
 rintro e w2 ⟨⟨dv,ts,nx,un,hE,hdW,rfl⟩,hb2⟩
 have KE:Hid _:=hE
 have Rm2:Hid (HRw w2 (w.heap.size+1) #[B (l0 m),B (l1 m),B (l2 m),B (l3 m)]):=Rm.out.below hb2
 have Rr2:Hid (HRw w2 (w.heap.size+1+1) #[.int .u64 0,.int .u64 0,.int .u64 0,.int .u64 0]):=Rr.out.below hb2
 have B2:Hid (Below w.heap.size w w2):=bCl B1.out hb2
 have hq2:w.heap.size+1+1<w2.heap.size:=Rr2.out.lt
 have he:=cq.out dv hdW
 clear hb2 Ra Rm Rr B1 hE a0 a1 a2 a3 m0 m1 m2 m3
 by_cases hd1:dv=1
 ·rw[decide_eq_true hd1] at he
  have HD1:Hid (dv=1):=hd1
  clear hd1
  go_upto_region 4 with fail
  refine name_world _ ?_
  intro wF hF
  have Fm:Hid (HRw wF (w.heap.size+1) #[B (l0 m),B (l1 m),B (l2 m),B (l3 m)]):=by rw[hF];exact (HRw.old (HRw.old Rm2.out))
  have Fr:Hid (HRw wF (w.heap.size+1+1) #[.int .u64 0,.int .u64 0,.int .u64 0,.int .u64 0]):=by rw[hF];exact (HRw.old (HRw.old Rr2.out))
  have Ft:Hid (HRw wF (w2.heap.size+1) #[B (l0 ts),B (l1 ts),B (l2 ts),B (l3 ts)]):=by rw[hF];exact HRw.last (by simp)
  have Fd:HRw wF w2.heap.size #[B (l0 dv),B (l1 dv),B (l2 dv),B (l3 dv)]:=by rw[hF];exact (HRw.old (HRw.last rfl))
  have FB:Hid (Below w.heap.size w wF):=by rw[hF];exact bAl (bAl B2.out _) _
  have d0:wF.cell? ⟨w2.heap.size,0,none⟩=some (B (l0 dv)):=Fd.cell 0
  have d1:wF.cell? ⟨w2.heap.size,1,none⟩=some (B (l1 dv)):=Fd.cell 1
  have d2:wF.cell? ⟨w2.heap.size,2,none⟩=some (B (l2 dv)):=Fd.cell 2
  have d3:wF.cell? ⟨w2.heap.size,3,none⟩=some (B (l3 dv)):=Fd.cell 3
  clear hF Fd
  replace d0:=cell_regrown d0
  replace d1:=cell_regrown d1
  replace d2:=cell_regrown d2
  replace d3:=cell_regrown d3
  refine wp_region_quiet_below (by kernel_rfl) (by kernel_rfl) ?_
  repeat (go_big_quiet_step (fail))
  go_big_quiet_step ((exact Calls.regrown_of (co.out _)))
  repeat (go_big_quiet_step (fail))
  refine wpQuiet_nil ?_
  intro _ hw'
  obtain ⟨⟨dq',osq⟩,hw''⟩:=hw'
  subst hw''
  have hbq:=below_regrown wF dq' osq
  have Gm:Hid (HRw (grow (redrawn wF dq') osq) (w.heap.size+1) #[B (l0 m),B (l1 m),B (l2 m),B (l3 m)]):=Fm.out.below hbq
  have Gr:Hid (HRw (grow (redrawn wF dq') osq) (w.heap.size+1+1) #[.int .u64 0,.int .u64 0,.int .u64 0,.int .u64 0]):=Fr.out.below hbq
  have Gt:Hid (HRw (grow (redrawn wF dq') osq) (w2.heap.size+1) #[B (l0 ts),B (l1 ts),B (l2 ts),B (l3 ts)]):=Ft.out.below hbq
  have GB:Hid (Below w.heap.size w (grow (redrawn wF dq') osq)):=bCl FB.out hbq
  clear hbq Fm Fr Ft FB d0 d1 d2 d3 Rm2 Rr2 B2 he
  generalize grow (redrawn wF dq') osq=wG at *
  have hts:ts≤m:=KE.out.t
  have HI:IV a m (if un=true then m-ts else ts) true:=EI.inv HM.out.1 (by have:=KE.out;rwa [HD1.out] at this)
  have htW:ts<W:=Nat.lt_of_le_of_lt hts HM.out.2
  cases un
  ·have KI:Hid (IV a m ts true):=HI
   clear HI
   have t0:wG.cell? ⟨w2.heap.size+1,0,none⟩=some (B (l0 ts)):=Gt.out.cell 0
   have t1:wG.cell? ⟨w2.heap.size+1,1,none⟩=some (B (l1 ts)):=Gt.out.cell 1
   have t2:wG.cell? ⟨w2.heap.size+1,2,none⟩=some (B (l2 ts)):=Gt.out.cell 2
   have t3:wG.cell? ⟨w2.heap.size+1,3,none⟩=some (B (l3 ts)):=Gt.out.cell 3
   have tq:=Gt.out.lt
   have g0:wG.cell? ⟨w.heap.size+1+1,0,none⟩=some (.int .u64 0):=Gr.out.cell 0
   have g1:wG.cell? ⟨w.heap.size+1+1,1,none⟩=some (.int .u64 0):=Gr.out.cell 1
   have g2:wG.cell? ⟨w.heap.size+1+1,2,none⟩=some (.int .u64 0):=Gr.out.cell 2
   have g3:wG.cell? ⟨w.heap.size+1+1,3,none⟩=some (.int .u64 0):=Gr.out.cell 3
   have gz0:=Gr.out.frozen 0
   have gz1:=Gr.out.frozen 1
   have gz2:=Gr.out.frozen 2
   have gz3:=Gr.out.frozen 3
   have gq:=Gr.out.lt
   go_wp2
   rw[set4 Gr.out rfl]
   exact bodyPost_ret (v:=.tuple #[U ts,.bool true]) (results_c1t (p:=4) (r:=5) (ty:=24) rfl (g:=w.heap.size+1+1) rfl rfl (HRw.set_same Gr.out _) rfl Tryz.underlying24 (by kernel_rfl)) rfl ⟨⟨ts,true,KI.out,htW,rfl⟩,bSR GB.out (by omega) _⟩
  ·have KI:Hid (IV a m (m-ts) true):=HI
   have hxW:m-ts<W:=Nat.lt_of_le_of_lt (Nat.sub_le _ _) HM.out.2
   have cs':Hid (∀ w,Calls Tryz.prog 106 #[U m,U ts] w fun e w'=>e=.returned (.tuple #[U (m-ts),.bool false])∧Below w.heap.size w w'):=cs.out ts hts
   obtain ⟨x,hx⟩:∃ x,x=m-ts:=⟨_,rfl⟩
   rw[← hx] at cs' KI hxW
   clear HI hx
   have t0:wG.cell? ⟨w2.heap.size+1,0,none⟩=some (B (l0 ts)):=Gt.out.cell 0
   have t1:wG.cell? ⟨w2.heap.size+1,1,none⟩=some (B (l1 ts)):=Gt.out.cell 1
   have t2:wG.cell? ⟨w2.heap.size+1,2,none⟩=some (B (l2 ts)):=Gt.out.cell 2
   have t3:wG.cell? ⟨w2.heap.size+1,3,none⟩=some (B (l3 ts)):=Gt.out.cell 3
   have m0:wG.cell? ⟨w.heap.size+1,0,none⟩=some (B (l0 m)):=Gm.out.cell 0
   have m1:wG.cell? ⟨w.heap.size+1,1,none⟩=some (B (l1 m)):=Gm.out.cell 1
   have m2:wG.cell? ⟨w.heap.size+1,2,none⟩=some (B (l2 m)):=Gm.out.cell 2
   have m3:wG.cell? ⟨w.heap.size+1,3,none⟩=some (B (l3 m)):=Gm.out.cell 3
   go_wp2_with fail
   refine (cs'.out _).mono ?_
   rintro e w5 ⟨rfl,hb5⟩
   have Hr:Hid (HRw w5 (w.heap.size+1+1) #[.int .u64 0,.int .u64 0,.int .u64 0,.int .u64 0]):=Gr.out.below hb5
   have Ht:Hid (HRw w5 (w2.heap.size+1) #[B (l0 ts),B (l1 ts),B (l2 ts),B (l3 ts)]):=Gt.out.below hb5
   have HB:Hid (Below w.heap.size w w5):=bCl GB.out hb5
   clear hb5 Gr Gt Gm GB t0 t1 t2 t3 m0 m1 m2 m3
   have g0:w5.cell? ⟨w2.heap.size+1,0,none⟩=some (B (l0 ts)):=Ht.out.cell 0
   have g1:w5.cell? ⟨w2.heap.size+1,1,none⟩=some (B (l1 ts)):=Ht.out.cell 1
   have g2:w5.cell? ⟨w2.heap.size+1,2,none⟩=some (B (l2 ts)):=Ht.out.cell 2
   have g3:w5.cell? ⟨w2.heap.size+1,3,none⟩=some (B (l3 ts)):=Ht.out.cell 3
   have gz0:=Ht.out.frozen 0
   have gz1:=Ht.out.frozen 1
   have gz2:=Ht.out.frozen 2
   have gz3:=Ht.out.frozen 3
   have gq:=Ht.out.lt
   go_upto_region 8 with fail
   rw[set4 Ht.out rfl]
   have It:Hid (HRw (w5.setRow (w2.heap.size+1) #[B (l0 x),B (l1 x),B (l2 x),B (l3 x)]) (w2.heap.size+1) #[B (l0 x),B (l1 x),B (l2 x),B (l3 x)]):=Ht.out.set_same _
   have Ir:Hid (HRw (w5.setRow (w2.heap.size+1) #[B (l0 x),B (l1 x),B (l2 x),B (l3 x)]) (w.heap.size+1+1) #[.int .u64 0,.int .u64 0,.int .u64 0,.int .u64 0]):=Hr.out.set_other _ (by omega)
   have IB:Hid (Below w.heap.size w (w5.setRow (w2.heap.size+1) #[B (l0 x),B (l1 x),B (l2 x),B (l3 x)])):=bSR HB.out (by omega) _
   clear Hr Ht HB g0 g1 g2 g3 gz0 gz1 gz2 gz3 gq
   generalize w5.setRow (w2.heap.size+1) #[B (l0 x),B (l1 x),B (l2 x),B (l3 x)]=w6 at *
   have t0:w6.cell? ⟨w2.heap.size+1,0,none⟩=some (B (l0 x)):=It.out.cell 0
   have t1:w6.cell? ⟨w2.heap.size+1,1,none⟩=some (B (l1 x)):=It.out.cell 1
   have t2:w6.cell? ⟨w2.heap.size+1,2,none⟩=some (B (l2 x)):=It.out.cell 2
   have t3:w6.cell? ⟨w2.heap.size+1,3,none⟩=some (B (l3 x)):=It.out.cell 3
   have tq:=It.out.lt
   have g0:w6.cell? ⟨w.heap.size+1+1,0,none⟩=some (.int .u64 0):=Ir.out.cell 0
   have g1:w6.cell? ⟨w.heap.size+1+1,1,none⟩=some (.int .u64 0):=Ir.out.cell 1
   have g2:w6.cell? ⟨w.heap.size+1+1,2,none⟩=some (.int .u64 0):=Ir.out.cell 2
   have g3:w6.cell? ⟨w.heap.size+1+1,3,none⟩=some (.int .u64 0):=Ir.out.cell 3
   have gz0:=Ir.out.frozen 0
   have gz1:=Ir.out.frozen 1
   have gz2:=Ir.out.frozen 2
   have gz3:=Ir.out.frozen 3
   have gq:=Ir.out.lt
   go_wp2
   rw[set4 Ir.out rfl]
   exact bodyPost_ret (v:=.tuple #[U x,.bool true]) (results_c1t (p:=4) (r:=5) (ty:=24) rfl (g:=w.heap.size+1+1) rfl rfl (HRw.set_same Ir.out _) rfl Tryz.underlying24 (by kernel_rfl)) rfl ⟨⟨x,true,KI.out,hxW,rfl⟩,bSR IB.out (by omega) _⟩
 ·rw[decide_eq_false hd1] at he
  go_upto_region 4 with fail
  refine name_world _ ?_
  intro wF hF
  have Fm:Hid (HRw wF (w.heap.size+1) #[B (l0 m),B (l1 m),B (l2 m),B (l3 m)]):=by rw[hF];exact (HRw.old (HRw.old Rm2.out))
  have Fr:Hid (HRw wF (w.heap.size+1+1) #[.int .u64 0,.int .u64 0,.int .u64 0,.int .u64 0]):=by rw[hF];exact (HRw.old (HRw.old Rr2.out))
  have Ft:Hid (HRw wF (w2.heap.size+1) #[B (l0 ts),B (l1 ts),B (l2 ts),B (l3 ts)]):=by rw[hF];exact HRw.last (by simp)
  have Fd:HRw wF w2.heap.size #[B (l0 dv),B (l1 dv),B (l2 dv),B (l3 dv)]:=by rw[hF];exact (HRw.old (HRw.last rfl))
  have FB:Hid (Below w.heap.size w wF):=by rw[hF];exact bAl (bAl B2.out _) _
  have d0:wF.cell? ⟨w2.heap.size,0,none⟩=some (B (l0 dv)):=Fd.cell 0
  have d1:wF.cell? ⟨w2.heap.size,1,none⟩=some (B (l1 dv)):=Fd.cell 1
  have d2:wF.cell? ⟨w2.heap.size,2,none⟩=some (B (l2 dv)):=Fd.cell 2
  have d3:wF.cell? ⟨w2.heap.size,3,none⟩=some (B (l3 dv)):=Fd.cell 3
  clear hF Fd
  replace d0:=cell_regrown d0
  replace d1:=cell_regrown d1
  replace d2:=cell_regrown d2
  replace d3:=cell_regrown d3
  refine wp_region_quiet_below (by kernel_rfl) (by kernel_rfl) ?_
  repeat (go_big_quiet_step (fail))
  go_big_quiet_step ((exact Calls.regrown_of (co.out _)))
  repeat (go_big_quiet_step (fail))
  refine wpQuiet_nil ?_
  intro _ hw'
  obtain ⟨⟨dq',osq⟩,hw''⟩:=hw'
  subst hw''
  have hbq:=below_regrown wF dq' osq
  have Gm:Hid (HRw (grow (redrawn wF dq') osq) (w.heap.size+1) #[B (l0 m),B (l1 m),B (l2 m),B (l3 m)]):=Fm.out.below hbq
  have Gr:Hid (HRw (grow (redrawn wF dq') osq) (w.heap.size+1+1) #[.int .u64 0,.int .u64 0,.int .u64 0,.int .u64 0]):=Fr.out.below hbq
  have Gt:Hid (HRw (grow (redrawn wF dq') osq) (w2.heap.size+1) #[B (l0 ts),B (l1 ts),B (l2 ts),B (l3 ts)]):=Ft.out.below hbq
  have GB:Hid (Below w.heap.size w (grow (redrawn wF dq') osq)):=bCl FB.out hbq
  clear hbq Fm Fr Ft FB d0 d1 d2 d3 Rm2 Rr2 B2 he
  generalize grow (redrawn wF dq') osq=wG at *
  have KI:Hid (IV a m 0 false):=IV.none (by rw[← KE.out.stop];exact hd1)
  have g0:wG.cell? ⟨w.heap.size+1+1,0,none⟩=some (.int .u64 0):=Gr.out.cell 0
  have g1:wG.cell? ⟨w.heap.size+1+1,1,none⟩=some (.int .u64 0):=Gr.out.cell 1
  have g2:wG.cell? ⟨w.heap.size+1+1,2,none⟩=some (.int .u64 0):=Gr.out.cell 2
  have g3:wG.cell? ⟨w.heap.size+1+1,3,none⟩=some (.int .u64 0):=Gr.out.cell 3
  have gz0:=Gr.out.frozen 0
  have gz1:=Gr.out.frozen 1
  have gz2:=Gr.out.frozen 2
  have gz3:=Gr.out.frozen 3
  have gq:=Gr.out.lt
  go_wp2
  rw[set4 Gr.out rfl]
  exact bodyPost_ret (v:=.tuple #[I4 0 0 0 0,.bool false]) (results_c1t (p:=4) (r:=5) (ty:=24) rfl (g:=w.heap.size+1+1) rfl rfl (HRw.set_same Gr.out _) rfl Tryz.underlying24 (by kernel_rfl)) rfl ⟨⟨0,false,KI.out,W_pos,by rw[U_zero]⟩,bSR GB.out (by omega) _⟩
theorem eqU_lit(x y:Nat)(hx:x<W)(hy:y<W)(v:Value)(hv:U y=v)(w:World):(Op.equalIn 10000 24 (U x) v).run Tryz.prog w=.ok (decide (x=y)) w:=by
 rw[← hv];exact run_eqU x y hx hy w
theorem inv_any(a m:Nat)(ha:a<W)(hm:m<W)(w:World):Calls Tryz.prog 100 #[U a,U m] w fun e w'=>(∃ x ok,IV a m x ok∧x<W∧e=.returned (.tuple #[U x,.bool ok]))∧Below w.heap.size w w':=by
 have ht:=trivial_any m hm
 rcases Nat.lt_or_ge 1 m with h1 | h1
 ·refine inv_main a m h1 hm (fun w=>?_) (fun w=>?_) (fun w=>?_) (fun x hx w=>eqU_lit x 1 hx (by decide +kernel) _ U_1 w) (fun x hx w=>?_) w
  ·have h:=ht w
   rw[decide_eq_false (by omega)] at h
   exact h
  ·refine euclid_raw a m ha hm (by omega) (fun w=>?_) (fun x y hx hy h0 w=>?_) (fun x y hx hy hxy w=>?_) (fun x y hx hy hxy w=>?_) (fun x hx w=>eqU_lit x 0 hx W_pos _ U_zero w) w
   ·have h:=of_any 1 (by decide) w
    rw[U_1] at h
    exact h
   ·have h:=div_any x y hx hy w
    have e:dr 0 x y=x%y:=by unfold dr;rw[if_neg (by omega),Nat.zero_mul,Nat.zero_add]
    rw[e] at h
    exact h
   ·have h:=mul_any x y hx hy w
    rw[Nat.mod_eq_of_lt hxy] at h
    exact h
   ·have h:=add_any x y hx hy w
    have e1:addW x y=x+y:=Nat.mod_eq_of_lt hxy
    have e2:ovW x y=false:=decide_eq_false (by omega)
    rw[e1,e2] at h
    exact h
  ·have h:=of_any 1 (by decide) w
   rw[U_1] at h
   exact h
  ·have h:=sub_any m x hm (Nat.lt_of_le_of_lt hx hm) w
   have e1:subW m x=m-x:=by
    unfold subW
    rw[show m+W-x=(m-x)+W by omega,Nat.add_mod_right,Nat.mod_eq_of_lt (by omega)]
   have e2:unW m x=false:=decide_eq_false (by omega)
   rw[e1,e2] at h
   exact h
 ·refine inv_low a m (fun w=>?_) h1 w
  have h:=ht w
  rw[decide_eq_true h1] at h
  exact h
end
section
open Go.RowKit Go.Sort
attribute [local go_sem] run_eq4 run_eqU_same
set_option maxRecDepth 100000 in
theorem minus0_raw(a b m x:Nat)(c1:Hid (∀ w,Calls Tryz.prog 27 #[U a,U b] w fun e w'=>e=.returned (.tuple #[U x,.bool false])∧Below w.heap.size w w'))(w:World) :
  Calls Tryz.prog 85 #[U a,U b,U m] w fun e w'=>e=.returned (U x)∧Below w.heap.size w w':=by
 go_enter Tryz.func85,Tryz.ntmps85
 go_wp2_with fail
 refine (c1.out _).mono ?_
 rintro e w1 ⟨rfl,hb1⟩
 have Rr:Hid (HRw w1 (w.heap.size+1+1+1) #[.int .u64 0,.int .u64 0,.int .u64 0,.int .u64 0]):=(HRw.last (by simp)).below hb1
 have B1:Hid (Below w.heap.size w w1):=bCl (by (repeat (first | exact Below.refl _ _ | refine bAl ?_ _))) hb1
 have hq:=Rr.out.lt
 clear hb1
 go_upto_region 4 with fail
 refine name_world _ ?_
 intro wF hF
 have Fr:Hid (HRw wF (w.heap.size+1+1+1) #[.int .u64 0,.int .u64 0,.int .u64 0,.int .u64 0]):=by rw[hF];exact HRw.old Rr.out
 have Fx:Hid (HRw wF w1.heap.size #[B (l0 x),B (l1 x),B (l2 x),B (l3 x)]):=by rw[hF];exact HRw.last rfl
 have FB:Hid (Below w.heap.size w wF):=by rw[hF];exact bAl B1.out _
 clear hF Rr B1
 have x0:wF.cell? ⟨w1.heap.size,0,none⟩=some (B (l0 x)):=Fx.out.cell 0
 have x1:wF.cell? ⟨w1.heap.size,1,none⟩=some (B (l1 x)):=Fx.out.cell 1
 have x2:wF.cell? ⟨w1.heap.size,2,none⟩=some (B (l2 x)):=Fx.out.cell 2
 have x3:wF.cell? ⟨w1.heap.size,3,none⟩=some (B (l3 x)):=Fx.out.cell 3
 have xq:=Fx.out.lt
 have g0:wF.cell? ⟨w.heap.size+1+1+1,0,none⟩=some (.int .u64 0):=Fr.out.cell 0
 have g1:wF.cell? ⟨w.heap.size+1+1+1,1,none⟩=some (.int .u64 0):=Fr.out.cell 1
 have g2:wF.cell? ⟨w.heap.size+1+1+1,2,none⟩=some (.int .u64 0):=Fr.out.cell 2
 have g3:wF.cell? ⟨w.heap.size+1+1+1,3,none⟩=some (.int .u64 0):=Fr.out.cell 3
 have gz0:=Fr.out.frozen 0
 have gz1:=Fr.out.frozen 1
 have gz2:=Fr.out.frozen 2
 have gz3:=Fr.out.frozen 3
 have gq:=Fr.out.lt
 go_wp2
 rw[set4 Fr.out rfl]
 exact bodyPost_ret (v:=U x) (rC1 (p:=6) (ty:=24) rfl (g:=w.heap.size+1+1+1) rfl (Fr.out.set_same _) rfl Tryz.underlying24 (by kernel_rfl)) rfl ⟨rfl,bSR FB.out (by omega) _⟩
set_option maxRecDepth 100000 in
theorem minus1_raw(a b m x y:Nat)(ov:Bool)(c1:Hid (∀ w,Calls Tryz.prog 27 #[U a,U b] w fun e w'=>e=.returned (.tuple #[U x,.bool true])∧Below w.heap.size w w'))(c2:Hid (∀ w,Calls Tryz.prog 76 #[U x,U m] w fun e w'=>e=.returned (.tuple #[U y,.bool ov])∧Below w.heap.size w w'))(w:World) :
  Calls Tryz.prog 85 #[U a,U b,U m] w fun e w'=>e=.returned (U y)∧Below w.heap.size w w':=by
 go_enter Tryz.func85,Tryz.ntmps85
 go_wp2_with fail
 refine (c1.out _).mono ?_
 rintro e w1 ⟨rfl,hb1⟩
 have Rm:Hid (HRw w1 (w.heap.size+1+1) #[B (l0 m),B (l1 m),B (l2 m),B (l3 m)]):=(HRw.old (HRw.last (by simp))).below hb1
 have Rr:Hid (HRw w1 (w.heap.size+1+1+1) #[.int .u64 0,.int .u64 0,.int .u64 0,.int .u64 0]):=(HRw.last (by simp)).below hb1
 have B1:Hid (Below w.heap.size w w1):=bCl (by (repeat (first | exact Below.refl _ _ | refine bAl ?_ _))) hb1
 have m0:w1.cell? ⟨w.heap.size+1+1,0,none⟩=some (B (l0 m)):=Rm.out.cell 0
 have m1:w1.cell? ⟨w.heap.size+1+1,1,none⟩=some (B (l1 m)):=Rm.out.cell 1
 have m2:w1.cell? ⟨w.heap.size+1+1,2,none⟩=some (B (l2 m)):=Rm.out.cell 2
 have m3:w1.cell? ⟨w.heap.size+1+1,3,none⟩=some (B (l3 m)):=Rm.out.cell 3
 have mz:=Rr.out.lt
 have mq0:w.heap.size<w1.heap.size:=by omega
 have mq1:w.heap.size+1<w1.heap.size:=by omega
 have mq2:w.heap.size+1+1<w1.heap.size:=by omega
 have mq3:w.heap.size+1+1+1<w1.heap.size:=by omega
 clear hb1
 go_wp2_with fail
 refine (c2.out _).mono ?_
 rintro e w2 ⟨rfl,hb2⟩
 have Rr2:Hid (HRw w2 (w.heap.size+1+1+1) #[.int .u64 0,.int .u64 0,.int .u64 0,.int .u64 0]):=(HRw.old Rr.out).below hb2
 have Rx2:Hid (HRw w2 w1.heap.size #[B (l0 x),B (l1 x),B (l2 x),B (l3 x)]):=(HRw.last rfl).below hb2
 have B2:Hid (Below w.heap.size w w2):=bCl (bAl B1.out _) hb2
 clear hb2 Rr B1 m0 m1 m2 m3 mq0 mq1 mq2 mq3 Rm
 have g0:w2.cell? ⟨w1.heap.size,0,none⟩=some (B (l0 x)):=Rx2.out.cell 0
 have g1:w2.cell? ⟨w1.heap.size,1,none⟩=some (B (l1 x)):=Rx2.out.cell 1
 have g2:w2.cell? ⟨w1.heap.size,2,none⟩=some (B (l2 x)):=Rx2.out.cell 2
 have g3:w2.cell? ⟨w1.heap.size,3,none⟩=some (B (l3 x)):=Rx2.out.cell 3
 have gz0:=Rx2.out.frozen 0
 have gz1:=Rx2.out.frozen 1
 have gz2:=Rx2.out.frozen 2
 have gz3:=Rx2.out.frozen 3
 have gq:=Rx2.out.lt
 go_upto_region 4 with fail
 rw[set4 Rx2.out rfl]
 have Fr:Hid (HRw (w2.setRow w1.heap.size #[B (l0 y),B (l1 y),B (l2 y),B (l3 y)]) (w.heap.size+1+1+1) #[.int .u64 0,.int .u64 0,.int .u64 0,.int .u64 0]):=Rr2.out.set_other _ (by omega)
 have Fx:Hid (HRw (w2.setRow w1.heap.size #[B (l0 y),B (l1 y),B (l2 y),B (l3 y)]) w1.heap.size #[B (l0 y),B (l1 y),B (l2 y),B (l3 y)]):=Rx2.out.set_same _
 have FB:Hid (Below w.heap.size w (w2.setRow w1.heap.size #[B (l0 y),B (l1 y),B (l2 y),B (l3 y)])):=bSR B2.out (by omega) _
 clear Rr2 Rx2 B2 g0 g1 g2 g3 gz0 gz1 gz2 gz3 gq
 generalize w2.setRow w1.heap.size #[B (l0 y),B (l1 y),B (l2 y),B (l3 y)]=w3 at *
 have x0:w3.cell? ⟨w1.heap.size,0,none⟩=some (B (l0 y)):=Fx.out.cell 0
 have x1:w3.cell? ⟨w1.heap.size,1,none⟩=some (B (l1 y)):=Fx.out.cell 1
 have x2:w3.cell? ⟨w1.heap.size,2,none⟩=some (B (l2 y)):=Fx.out.cell 2
 have x3:w3.cell? ⟨w1.heap.size,3,none⟩=some (B (l3 y)):=Fx.out.cell 3
 have xq:=Fx.out.lt
 have g0:w3.cell? ⟨w.heap.size+1+1+1,0,none⟩=some (.int .u64 0):=Fr.out.cell 0
 have g1:w3.cell? ⟨w.heap.size+1+1+1,1,none⟩=some (.int .u64 0):=Fr.out.cell 1
 have g2:w3.cell? ⟨w.heap.size+1+1+1,2,none⟩=some (.int .u64 0):=Fr.out.cell 2
 have g3:w3.cell? ⟨w.heap.size+1+1+1,3,none⟩=some (.int .u64 0):=Fr.out.cell 3
 have gz0:=Fr.out.frozen 0
 have gz1:=Fr.out.frozen 1
 have gz2:=Fr.out.frozen 2
 have gz3:=Fr.out.frozen 3
 have gq:=Fr.out.lt
 go_wp2
 rw[set4 Fr.out rfl]
 exact bodyPost_ret (v:=U y) (rC1 (p:=6) (ty:=24) rfl (g:=w.heap.size+1+1+1) rfl (Fr.out.set_same _) rfl Tryz.underlying24 (by kernel_rfl)) rfl ⟨rfl,bSR FB.out (by omega) _⟩
theorem minus_any(a b m:Nat)(ha:a<m)(hb:b<m)(hm:m<W)(w:World):Calls Tryz.prog 85 #[U a,U b,U m] w fun e w'=>e=.returned (U (lessM a b m))∧Below w.heap.size w w':=by
 have haW:=Nat.lt_trans ha hm
 have hbW:=Nat.lt_trans hb hm
 unfold lessM
 by_cases h:a<b
 ·rw[if_pos h]
  have e1:subW a b=a+W-b:=by unfold subW;exact Nat.mod_eq_of_lt (by omega)
  have e2:unW a b=true:=decide_eq_true h
  have e3:addW (a+W-b) m=a+m-b:=by unfold addW;rw[show a+W-b+m=(a+m-b)+W by omega,Nat.add_mod_right,Nat.mod_eq_of_lt (by omega)]
  refine minus1_raw a b m (a+W-b) (a+m-b) (ovW (a+W-b) m) (fun w=>?_) (fun w=>?_) w
  ·have h:=rsub_any a b haW hbW w
   rw[e1,e2] at h;exact h
  ·have h:=radd_any (a+W-b) m (by omega) hm w
   rw[e3] at h;exact h
 ·rw[if_neg h]
  have e1:subW a b=a-b:=by unfold subW;rw[show a+W-b=(a-b)+W by omega,Nat.add_mod_right,Nat.mod_eq_of_lt (by omega)]
  have e2:unW a b=false:=decide_eq_false h
  refine minus0_raw a b m (a-b) (fun w=>?_) w
  have h:=rsub_any a b haW hbW w
  rw[e1,e2] at h;exact h
set_option maxRecDepth 100000 in
theorem rinv_low(a m:Nat)(cv:Int)(hcv:cv≤0)(c1:Hid (∀ w,Calls Tryz.prog 42 #[U m,I4 1 0 0 0] w fun e w'=>e=.returned (.int .i64 cv)∧Below w.heap.size w w'))(hm:m≤1)(w:World) :
  Calls Tryz.prog 40 #[U a,U m] w fun e w'=>(∃ x ok,IV a m x ok∧x<W∧e=.returned (.tuple #[U x,.bool ok]))∧Below w.heap.size w w':=by
 have HI:Hid (IV a m 0 false):=IV.low hm
 clear hm
 go_enter Tryz.func40,Tryz.ntmps40
 go_wp2_with fail
 refine (c1.out _).mono ?_
 rintro e w1 ⟨rfl,hb1⟩
 have R1:Hid (HRw w1 (w.heap.size+1+1) #[.int .u64 0,.int .u64 0,.int .u64 0,.int .u64 0]):=(HRw.old (HRw.last (by simp))).below hb1
 have B1:Hid (Below w.heap.size w w1):=bCl (by (repeat (first | exact Below.refl _ _ | refine bAl ?_ _))) hb1
 clear hb1
 have g0:w1.cell? ⟨w.heap.size+1+1,0,none⟩=some (.int .u64 0):=R1.out.cell 0
 have g1:w1.cell? ⟨w.heap.size+1+1,1,none⟩=some (.int .u64 0):=R1.out.cell 1
 have g2:w1.cell? ⟨w.heap.size+1+1,2,none⟩=some (.int .u64 0):=R1.out.cell 2
 have g3:w1.cell? ⟨w.heap.size+1+1,3,none⟩=some (.int .u64 0):=R1.out.cell 3
 have gz0:=R1.out.frozen 0
 have gz1:=R1.out.frozen 1
 have gz2:=R1.out.frozen 2
 have gz3:=R1.out.frozen 3
 have gq:=R1.out.lt
 go_wp2
 rw[set4 R1.out rfl]
 exact bodyPost_ret (v:=.tuple #[I4 0 0 0 0,.bool false]) (results_c1t (p:=4) (r:=5) (ty:=24) rfl (g:=w.heap.size+1+1) rfl rfl (HRw.set_same R1.out _) rfl Tryz.underlying24 (by kernel_rfl)) rfl ⟨⟨0,false,HI.out,W_pos,by rw[U_zero]⟩,bSR B1.out (by omega) _⟩
structure CI12 (w:World) (N0:Nat) (b8 b9 b10 b11 bq br m r od t bf q lf x nt:Nat) (lz:Array Bool) (vs:Nat→Value) (w':World):Prop where
 bw:Below w.heap.size w w'
 ms:N0≤w'.heap.size
 R0:HRw w' (b11) #[B (l0 bf),B (l1 bf),B (l2 bf),B (l3 bf)]
 R1:HRw w' (bq) #[B (l0 q),B (l1 q),B (l2 q),B (l3 q)]
 R2:HRw w' (b10) #[B (l0 t),B (l1 t),B (l2 t),B (l3 t)]
 R3:HRw w' (w.heap.size+1) #[B (l0 m),B (l1 m),B (l2 m),B (l3 m)]
 R4:HRw w' (b9) #[B (l0 od),B (l1 od),B (l2 od),B (l3 od)]
 R5:HRw w' (b8) #[B (l0 r),B (l1 r),B (l2 r),B (l3 r)]
 R6:HRw w' (br) #[B (l0 lf),B (l1 lf),B (l2 lf),B (l3 lf)]
 R7:HRw w' (w.heap.size+1+1) #[.int .u64 0,.int .u64 0,.int .u64 0,.int .u64 0]
 R8:HRw w' (w.heap.size+1+1+1) #[.int .u64 1,.int .u64 0,.int .u64 0,.int .u64 0]
 c0:lz.getD 0 false=true→vs 0=U bf
 c1:lz.getD 1 false=true→vs 1=U q
 c2:lz.getD 2 false=true→vs 2=U t
 c3:lz.getD 3 false=true→vs 3=U m
 c4:lz.getD 4 false=true→vs 4=U x
 c5:lz.getD 5 false=true→vs 5=U m
 c6:lz.getD 6 false=true→vs 6=U nt
 c7:lz.getD 7 false=true→∃ g c,vs 7=.pointer (some ⟨g,0,none⟩)∧N0≤g∧HRw w' g c∧c.size=4∧(lz.getD 8 false=true→c=#[B (l0 nt),B (l1 nt),B (l2 nt),B (l3 nt)])
 c8:lz.getD 8 false=true→lz.getD 7 false=true
structure DS (w w':World) (b8 b9 b10 b11 m r od t bf:Nat):Prop where
 rm:HRw w' (w.heap.size+1) #[B (l0 m),B (l1 m),B (l2 m),B (l3 m)]
 rr:HRw w' (w.heap.size+1+1) #[.int .u64 0,.int .u64 0,.int .u64 0,.int .u64 0]
 ro:HRw w' (w.heap.size+1+1+1) #[.int .u64 1,.int .u64 0,.int .u64 0,.int .u64 0]
 r8:HRw w' (b8) #[B (l0 r),B (l1 r),B (l2 r),B (l3 r)]
 r9:HRw w' (b9) #[B (l0 od),B (l1 od),B (l2 od),B (l3 od)]
 r10:HRw w' (b10) #[B (l0 t),B (l1 t),B (l2 t),B (l3 t)]
 r11:HRw w' (b11) #[B (l0 bf),B (l1 bf),B (l2 bf),B (l3 bf)]
 bw:Below w.heap.size w w'
 o1:w.heap.size+1+1+1<b8
 o2:b8<b9
 o3:b9<b10
 o4:b10<b11
theorem DS.call{w w' w'':World}{b8 b9 b10 b11 m r od t bf:Nat}(h:DS w w' b8 b9 b10 b11 m r od t bf)(hb:Below w'.heap.size w' w''):DS w w'' b8 b9 b10 b11 m r od t bf:=
 ⟨h.rm.below hb,h.rr.below hb,h.ro.below hb,h.r8.below hb,h.r9.below hb,h.r10.below hb,h.r11.below hb,h.bw.trans (hb.mono h.bw.size),h.o1,h.o2,h.o3,h.o4⟩
theorem DS.alloc{w w':World}{b8 b9 b10 b11 m r od t bf:Nat}(h:DS w w' b8 b9 b10 b11 m r od t bf)(o:Obj):DS w (w'.alloc o) b8 b9 b10 b11 m r od t bf:=
 ⟨h.rm.old,h.rr.old,h.ro.old,h.r8.old,h.r9.old,h.r10.old,h.r11.old,bAl h.bw _,h.o1,h.o2,h.o3,h.o4⟩
structure DX (w w':World) (b8 b9 b10 b11 br g15 m r od t bf lf nt:Nat):Prop where
 s:DS w w' b8 b9 b10 b11 m r od t bf
 xl:HRw w' br #[B (l0 lf),B (l1 lf),B (l2 lf),B (l3 lf)]
 xn:HRw w' g15 #[B (l0 nt),B (l1 nt),B (l2 nt),B (l3 nt)]
 o5:b11<br
 o6:br<g15
theorem DX.put8{w w':World}{b8 b9 b10 b11 br g15 m r od t bf lf nt:Nat}(h:DX w w' b8 b9 b10 b11 br g15 m r od t bf lf nt)(y:Nat):DX w (w'.setRow b8 #[B (l0 y),B (l1 y),B (l2 y),B (l3 y)]) b8 b9 b10 b11 br g15 m y od t bf lf nt:=by
 have o1:=h.s.o1;have o2:=h.s.o2;have o3:=h.s.o3;have o4:=h.s.o4;have o5:=h.o5;have o6:=h.o6
 exact ⟨⟨h.s.rm.set_other _ (by omega),h.s.rr.set_other _ (by omega),h.s.ro.set_other _ (by omega),h.s.r8.set_same _,h.s.r9.set_other _ (by omega),h.s.r10.set_other _ (by omega),h.s.r11.set_other _ (by omega),bSR h.s.bw (by omega) _,o1,o2,o3,o4⟩,h.xl.set_other _ (by omega),h.xn.set_other _ (by omega),o5,o6⟩
theorem DX.put9{w w':World}{b8 b9 b10 b11 br g15 m r od t bf lf nt:Nat}(h:DX w w' b8 b9 b10 b11 br g15 m r od t bf lf nt)(y:Nat):DX w (w'.setRow b9 #[B (l0 y),B (l1 y),B (l2 y),B (l3 y)]) b8 b9 b10 b11 br g15 m r y t bf lf nt:=by
 have o1:=h.s.o1;have o2:=h.s.o2;have o3:=h.s.o3;have o4:=h.s.o4;have o5:=h.o5;have o6:=h.o6
 exact ⟨⟨h.s.rm.set_other _ (by omega),h.s.rr.set_other _ (by omega),h.s.ro.set_other _ (by omega),h.s.r8.set_other _ (by omega),h.s.r9.set_same _,h.s.r10.set_other _ (by omega),h.s.r11.set_other _ (by omega),bSR h.s.bw (by omega) _,o1,o2,o3,o4⟩,h.xl.set_other _ (by omega),h.xn.set_other _ (by omega),o5,o6⟩
theorem DX.put10{w w':World}{b8 b9 b10 b11 br g15 m r od t bf lf nt:Nat}(h:DX w w' b8 b9 b10 b11 br g15 m r od t bf lf nt)(y:Nat):DX w (w'.setRow b10 #[B (l0 y),B (l1 y),B (l2 y),B (l3 y)]) b8 b9 b10 b11 br g15 m r od y bf lf nt:=by
 have o1:=h.s.o1;have o2:=h.s.o2;have o3:=h.s.o3;have o4:=h.s.o4;have o5:=h.o5;have o6:=h.o6
 exact ⟨⟨h.s.rm.set_other _ (by omega),h.s.rr.set_other _ (by omega),h.s.ro.set_other _ (by omega),h.s.r8.set_other _ (by omega),h.s.r9.set_other _ (by omega),h.s.r10.set_same _,h.s.r11.set_other _ (by omega),bSR h.s.bw (by omega) _,o1,o2,o3,o4⟩,h.xl.set_other _ (by omega),h.xn.set_other _ (by omega),o5,o6⟩
theorem DX.put11{w w':World}{b8 b9 b10 b11 br g15 m r od t bf lf nt:Nat}(h:DX w w' b8 b9 b10 b11 br g15 m r od t bf lf nt)(y:Nat):DX w (w'.setRow b11 #[B (l0 y),B (l1 y),B (l2 y),B (l3 y)]) b8 b9 b10 b11 br g15 m r od t y lf nt:=by
 have o1:=h.s.o1;have o2:=h.s.o2;have o3:=h.s.o3;have o4:=h.s.o4;have o5:=h.o5;have o6:=h.o6
 exact ⟨⟨h.s.rm.set_other _ (by omega),h.s.rr.set_other _ (by omega),h.s.ro.set_other _ (by omega),h.s.r8.set_other _ (by omega),h.s.r9.set_other _ (by omega),h.s.r10.set_other _ (by omega),h.s.r11.set_same _,bSR h.s.bw (by omega) _,o1,o2,o3,o4⟩,h.xl.set_other _ (by omega),h.xn.set_other _ (by omega),o5,o6⟩
set_option maxRecDepth 100000 in
theorem rinv_main(a m q0:Nat)(h1:1<m)(hmW:m<W)(c1:Hid (∀ w,Calls Tryz.prog 42 #[U m,I4 1 0 0 0] w fun e w'=>e=.returned (.int .i64 1)∧Below w.heap.size w w'))(c2:Hid (∀ w,Calls Tryz.prog 84 #[U a,U m] w fun e w'=>e=.returned (.tuple #[U q0,U (a%m)])∧Below w.heap.size w w'))(cd:Hid (∀ x y,x<W→y<W→0<y→∀ w,Calls Tryz.prog 84 #[U x,U y] w fun e w'=>e=.returned (.tuple #[U (x/y),U (x%y)])∧Below w.heap.size w w'))(cx:Hid (∀ x y,x<W→y<W→∀ w,Calls Tryz.prog 86 #[U x,U y,U m] w fun e w'=>e=.returned (U (rm (x*y) m))∧Below w.heap.size w w'))(cl:Hid (∀ x y,x<m→y<m→∀ w,Calls Tryz.prog 85 #[U x,U y,U m] w fun e w'=>e=.returned (U (lessM x y m))∧Below w.heap.size w w'))(cz:Hid (∀ x,x<W→∀ w,(Op.equalIn 10000 24 (U x) (I4 0 0 0 0)).run Tryz.prog w=.ok (decide (x=0)) w))(cq:Hid (∀ x,x<W→∀ w,(Op.equalIn 10000 24 (U x) (I4 1 0 0 0)).run Tryz.prog w=.ok (decide (x=1)) w))(w:World) :
  Calls Tryz.prog 40 #[U a,U m] w fun e w'=>(∃ x ok,IV a m x ok∧x<W∧e=.returned (.tuple #[U x,.bool ok]))∧Below w.heap.size w w':=by
 have HM:Hid (1<m∧m<W):=⟨h1,hmW⟩
 have D0:Hid (DE a m m (a%m) 0 1 0):=DE.start h1 hmW
 obtain ⟨r0,hr0⟩:∃ r,r=a%m:=⟨_,rfl⟩
 rw[← hr0] at c2 D0
 clear h1 hmW hr0
 go_enter Tryz.func40,Tryz.ntmps40
 go_wp2_with fail
 refine (c1.out _).mono ?_
 rintro e w1 ⟨rfl,hb1⟩
 have Ra:Hid (HRw w1 (w.heap.size) #[B (l0 a),B (l1 a),B (l2 a),B (l3 a)]):=(HRw.old (HRw.old (HRw.old (HRw.last (by simp))))).below hb1
 have Rm:Hid (HRw w1 (w.heap.size+1) #[B (l0 m),B (l1 m),B (l2 m),B (l3 m)]):=(HRw.old (HRw.old (HRw.last (by simp)))).below hb1
 have Rr:Hid (HRw w1 (w.heap.size+1+1) #[.int .u64 0,.int .u64 0,.int .u64 0,.int .u64 0]):=(HRw.old (HRw.last (by simp))).below hb1
 have Ro:Hid (HRw w1 (w.heap.size+1+1+1) #[.int .u64 1,.int .u64 0,.int .u64 0,.int .u64 0]):=(HRw.last (by simp)).below hb1
 have B1:Hid (Below w.heap.size w w1):=bCl (by (repeat (first | exact Below.refl _ _ | refine bAl ?_ _))) hb1
 have a0:w1.cell? ⟨w.heap.size,0,none⟩=some (B (l0 a)):=Ra.out.cell 0
 have a1:w1.cell? ⟨w.heap.size,1,none⟩=some (B (l1 a)):=Ra.out.cell 1
 have a2:w1.cell? ⟨w.heap.size,2,none⟩=some (B (l2 a)):=Ra.out.cell 2
 have a3:w1.cell? ⟨w.heap.size,3,none⟩=some (B (l3 a)):=Ra.out.cell 3
 have m0:w1.cell? ⟨w.heap.size+1,0,none⟩=some (B (l0 m)):=Rm.out.cell 0
 have m1:w1.cell? ⟨w.heap.size+1,1,none⟩=some (B (l1 m)):=Rm.out.cell 1
 have m2:w1.cell? ⟨w.heap.size+1,2,none⟩=some (B (l2 m)):=Rm.out.cell 2
 have m3:w1.cell? ⟨w.heap.size+1,3,none⟩=some (B (l3 m)):=Rm.out.cell 3
 clear hb1
 go_wp2_with fail
 refine (c2.out _).mono ?_
 rintro e w2 ⟨rfl,hb2⟩
 have Rm2:Hid (HRw w2 (w.heap.size+1) #[B (l0 m),B (l1 m),B (l2 m),B (l3 m)]):=Rm.out.below hb2
 have Rr2:Hid (HRw w2 (w.heap.size+1+1) #[.int .u64 0,.int .u64 0,.int .u64 0,.int .u64 0]):=Rr.out.below hb2
 have Ro2:Hid (HRw w2 (w.heap.size+1+1+1) #[.int .u64 1,.int .u64 0,.int .u64 0,.int .u64 0]):=Ro.out.below hb2
 have B2:Hid (Below w.heap.size w w2):=bCl B1.out hb2
 have mz:=Ro2.out.lt
 clear hb2 Ra Rm Rr Ro B1 a0 a1 a2 a3 m0 m1 m2 m3
 have m0:w2.cell? ⟨w.heap.size+1,0,none⟩=some (B (l0 m)):=Rm2.out.cell 0
 have m1:w2.cell? ⟨w.heap.size+1,1,none⟩=some (B (l1 m)):=Rm2.out.cell 1
 have m2:w2.cell? ⟨w.heap.size+1,2,none⟩=some (B (l2 m)):=Rm2.out.cell 2
 have m3:w2.cell? ⟨w.heap.size+1,3,none⟩=some (B (l3 m)):=Rm2.out.cell 3
 have o0:w2.cell? ⟨w.heap.size+1+1+1,0,none⟩=some (.int .u64 1):=Ro2.out.cell 0
 have o1:w2.cell? ⟨w.heap.size+1+1+1,1,none⟩=some (.int .u64 0):=Ro2.out.cell 1
 have o2:w2.cell? ⟨w.heap.size+1+1+1,2,none⟩=some (.int .u64 0):=Ro2.out.cell 2
 have o3:w2.cell? ⟨w.heap.size+1+1+1,3,none⟩=some (.int .u64 0):=Ro2.out.cell 3
 have mq0:w.heap.size<w2.heap.size:=by omega
 have mq1:w.heap.size+1<w2.heap.size:=by omega
 have mq2:w.heap.size+1+1<w2.heap.size:=by omega
 have mq3:w.heap.size+1+1+1<w2.heap.size:=by omega
 go_wp2
 refine name_world _ ?_
 intro wF hF
 have F0:Hid (DS w wF (w2.heap.size+1) (w2.heap.size+1+1) (w2.heap.size+1+1+1) (w2.heap.size+1+1+1+1) m r0 m 1 0):=by
  have z0:#[B (l0 0),B (l1 0),B (l2 0),B (l3 0)]=(#[.int .u64 0,.int .u64 0,.int .u64 0,.int .u64 0]:Array Value):=Value.agg.inj U_zero
  have z1:#[B (l0 1),B (l1 1),B (l2 1),B (l3 1)]=(#[.int .u64 1,.int .u64 0,.int .u64 0,.int .u64 0]:Array Value):=Value.agg.inj U_1
  rw[hF]
  refine ⟨(HRw.old (HRw.old (HRw.old (HRw.old (HRw.old Rm2.out))))),(HRw.old (HRw.old (HRw.old (HRw.old (HRw.old Rr2.out))))),(HRw.old (HRw.old (HRw.old (HRw.old (HRw.old Ro2.out))))),(HRw.old (HRw.old (HRw.old (HRw.last (by simp))))),(HRw.old (HRw.old (HRw.last (by simp)))),?_,?_,bAl (bAl (bAl (bAl (bAl B2.out _) _) _) _) _,by omega,by omega,by omega,by omega⟩
  ·rw[z1];exact (HRw.old (HRw.last (by simp)))
  ·rw[z0];exact HRw.last (by simp)
 clear hF Rm2 Rr2 Ro2 B2 m0 m1 m2 m3 o0 o1 o2 o3
 go_loopw [12] (fun s w'=>∃ (i od r bf t:Nat),s=.int .i64 (i:Int)∧DS w w' (w2.heap.size+1) (w2.heap.size+1+1) (w2.heap.size+1+1+1) (w2.heap.size+1+1+1+1) m r od t bf∧DE a m od r bf t i) (fun s _=>800-(intOf s).toNat)
 case atStart=>exact ⟨0,m,r0,0,1,rfl,F0.out,D0.out⟩
 case round=>
  obtain ⟨i,od,r,bf,t,rfl,hS,hI⟩:=hrel
  clear F0 D0
  have KS:Hid _:=hS
  have KI:Hid _:=hI
  have hi:i≤512:=by obtain ⟨j,e,_⟩:=hI.k;omega
  clear hS hI
  have hoW:od<W:=Nat.lt_of_le_of_lt KI.out.om HM.out.2
  have hrW:r<W:=Nat.lt_trans KI.out.rl hoW
  have hbW:bf<W:=Nat.lt_trans KI.out.bm HM.out.2
  have htW:t<W:=Nat.lt_trans KI.out.tm HM.out.2
  have hz:=cz.out r hrW
  have r0:wr.cell? ⟨w2.heap.size+1,0,none⟩=some (B (l0 r)):=KS.out.r8.cell 0
  have r1:wr.cell? ⟨w2.heap.size+1,1,none⟩=some (B (l1 r)):=KS.out.r8.cell 1
  have r2:wr.cell? ⟨w2.heap.size+1,2,none⟩=some (B (l2 r)):=KS.out.r8.cell 2
  have r3:wr.cell? ⟨w2.heap.size+1,3,none⟩=some (B (l3 r)):=KS.out.r8.cell 3
  by_cases hr:r=0
  ·rw[decide_eq_true hr] at hz
   have HR:Hid (r=0):=hr
   clear hr
   have hqe:=cq.out od hoW
   by_cases ho:od=1
   ·rw[decide_eq_true ho] at hqe
    have KV:Hid (IV a m bf true):=DE.inv HM.out.1 (by have:=KI.out;rw[HR.out,ho] at this;exact this)
    clear ho
    have e0:wr.cell? ⟨w2.heap.size+1+1,0,none⟩=some (B (l0 od)):=KS.out.r9.cell 0
    have e1:wr.cell? ⟨w2.heap.size+1+1,1,none⟩=some (B (l1 od)):=KS.out.r9.cell 1
    have e2:wr.cell? ⟨w2.heap.size+1+1,2,none⟩=some (B (l2 od)):=KS.out.r9.cell 2
    have e3:wr.cell? ⟨w2.heap.size+1+1,3,none⟩=some (B (l3 od)):=KS.out.r9.cell 3
    have f0:wr.cell? ⟨w2.heap.size+1+1+1+1,0,none⟩=some (B (l0 bf)):=KS.out.r11.cell 0
    have f1:wr.cell? ⟨w2.heap.size+1+1+1+1,1,none⟩=some (B (l1 bf)):=KS.out.r11.cell 1
    have f2:wr.cell? ⟨w2.heap.size+1+1+1+1,2,none⟩=some (B (l2 bf)):=KS.out.r11.cell 2
    have f3:wr.cell? ⟨w2.heap.size+1+1+1+1,3,none⟩=some (B (l3 bf)):=KS.out.r11.cell 3
    have k0:wr.cell? ⟨w.heap.size+1+1+1,0,none⟩=some (.int .u64 1):=KS.out.ro.cell 0
    have k1:wr.cell? ⟨w.heap.size+1+1+1,1,none⟩=some (.int .u64 0):=KS.out.ro.cell 1
    have k2:wr.cell? ⟨w.heap.size+1+1+1,2,none⟩=some (.int .u64 0):=KS.out.ro.cell 2
    have k3:wr.cell? ⟨w.heap.size+1+1+1,3,none⟩=some (.int .u64 0):=KS.out.ro.cell 3
    have fqr9:=KS.out.r9.lt
    have fqr11:=KS.out.r11.lt
    have fqro:=KS.out.ro.lt
    have fqr8:=KS.out.r8.lt
    have g0:wr.cell? ⟨w.heap.size+1+1,0,none⟩=some (.int .u64 0):=KS.out.rr.cell 0
    have g1:wr.cell? ⟨w.heap.size+1+1,1,none⟩=some (.int .u64 0):=KS.out.rr.cell 1
    have g2:wr.cell? ⟨w.heap.size+1+1,2,none⟩=some (.int .u64 0):=KS.out.rr.cell 2
    have g3:wr.cell? ⟨w.heap.size+1+1,3,none⟩=some (.int .u64 0):=KS.out.rr.cell 3
    have gz0:=KS.out.rr.frozen 0
    have gz1:=KS.out.rr.frozen 1
    have gz2:=KS.out.rr.frozen 2
    have gz3:=KS.out.rr.frozen 3
    have gq:=KS.out.rr.lt
    go_wp2
    rw[set4 KS.out.rr rfl]
    exact bodyPost_ret (v:=.tuple #[U bf,.bool true]) (results_c1t (p:=4) (r:=5) (ty:=24) rfl (g:=w.heap.size+1+1) rfl rfl (HRw.set_same KS.out.rr _) rfl Tryz.underlying24 (by kernel_rfl)) rfl ⟨⟨bf,true,KV.out,hbW,rfl⟩,bSR KS.out.bw (by omega) _⟩
   ·rw[decide_eq_false ho] at hqe
    have KV:Hid (IV a m 0 false):=IV.none (by have:=KI.out;rw[HR.out] at this;rw[← this.stop];exact ho)
    clear ho
    have e0:wr.cell? ⟨w2.heap.size+1+1,0,none⟩=some (B (l0 od)):=KS.out.r9.cell 0
    have e1:wr.cell? ⟨w2.heap.size+1+1,1,none⟩=some (B (l1 od)):=KS.out.r9.cell 1
    have e2:wr.cell? ⟨w2.heap.size+1+1,2,none⟩=some (B (l2 od)):=KS.out.r9.cell 2
    have e3:wr.cell? ⟨w2.heap.size+1+1,3,none⟩=some (B (l3 od)):=KS.out.r9.cell 3
    have f0:wr.cell? ⟨w2.heap.size+1+1+1+1,0,none⟩=some (B (l0 bf)):=KS.out.r11.cell 0
    have f1:wr.cell? ⟨w2.heap.size+1+1+1+1,1,none⟩=some (B (l1 bf)):=KS.out.r11.cell 1
    have f2:wr.cell? ⟨w2.heap.size+1+1+1+1,2,none⟩=some (B (l2 bf)):=KS.out.r11.cell 2
    have f3:wr.cell? ⟨w2.heap.size+1+1+1+1,3,none⟩=some (B (l3 bf)):=KS.out.r11.cell 3
    have k0:wr.cell? ⟨w.heap.size+1+1+1,0,none⟩=some (.int .u64 1):=KS.out.ro.cell 0
    have k1:wr.cell? ⟨w.heap.size+1+1+1,1,none⟩=some (.int .u64 0):=KS.out.ro.cell 1
    have k2:wr.cell? ⟨w.heap.size+1+1+1,2,none⟩=some (.int .u64 0):=KS.out.ro.cell 2
    have k3:wr.cell? ⟨w.heap.size+1+1+1,3,none⟩=some (.int .u64 0):=KS.out.ro.cell 3
    have fqr9:=KS.out.r9.lt
    have fqr11:=KS.out.r11.lt
    have fqro:=KS.out.ro.lt
    have fqr8:=KS.out.r8.lt
    have g0:wr.cell? ⟨w.heap.size+1+1,0,none⟩=some (.int .u64 0):=KS.out.rr.cell 0
    have g1:wr.cell? ⟨w.heap.size+1+1,1,none⟩=some (.int .u64 0):=KS.out.rr.cell 1
    have g2:wr.cell? ⟨w.heap.size+1+1,2,none⟩=some (.int .u64 0):=KS.out.rr.cell 2
    have g3:wr.cell? ⟨w.heap.size+1+1,3,none⟩=some (.int .u64 0):=KS.out.rr.cell 3
    have gz0:=KS.out.rr.frozen 0
    have gz1:=KS.out.rr.frozen 1
    have gz2:=KS.out.rr.frozen 2
    have gz3:=KS.out.rr.frozen 3
    have gq:=KS.out.rr.lt
    go_wp2
    rw[set4 KS.out.rr rfl]
    exact bodyPost_ret (v:=.tuple #[I4 0 0 0 0,.bool false]) (results_c1t (p:=4) (r:=5) (ty:=24) rfl (g:=w.heap.size+1+1) rfl rfl (HRw.set_same KS.out.rr _) rfl Tryz.underlying24 (by kernel_rfl)) rfl ⟨⟨0,false,KV.out,W_pos,by rw[U_zero]⟩,bSR KS.out.bw (by omega) _⟩
  ·rw[decide_eq_false hr] at hz
   have hr1:0<r:=Nat.pos_of_ne_zero hr
   have KN:=KI.out.step hr1
   have hsm:=KI.out.small hr1
   obtain ⟨q,hq⟩:∃ x,x=od/r:=⟨_,rfl⟩
   obtain ⟨lf,hlf⟩:∃ x,x=od%r:=⟨_,rfl⟩
   obtain ⟨x,hx⟩:∃ x,x=rm (q*t) m:=⟨_,rfl⟩
   obtain ⟨nt,hnt⟩:∃ y,y=lessM bf x m:=⟨_,rfl⟩
   have hxm:x<m:=by rw[hx];exact rm_small _ (by have:=HM.out.1;omega)
   rw[← hq,← hlf,← hx,← hnt] at KN
   have KN:Hid _:=KN
   have c3:Hid (∀ w,Calls Tryz.prog 84 #[U od,U r] w fun e w'=>e=.returned (.tuple #[U q,U lf])∧Below w.heap.size w w'):=by rw[hq,hlf];exact cd.out od r hoW hrW hr1
   have c4:Hid (∀ w,Calls Tryz.prog 86 #[U q,U t,U m] w fun e w'=>e=.returned (U x)∧Below w.heap.size w w'):=by rw[hx];exact cx.out q t (by rw[hq];exact Nat.lt_of_le_of_lt (Nat.div_le_self _ _) hoW) htW
   have c5:Hid (∀ w,Calls Tryz.prog 85 #[U bf,U x,U m] w fun e w'=>e=.returned (U nt)∧Below w.heap.size w w'):=by rw[hnt];exact cl.out bf x KI.out.bm hxm
   clear hq hlf hx hnt hxm hr1 hoW hrW hbW htW
   have d0:wr.cell? ⟨w2.heap.size+1+1,0,none⟩=some (B (l0 od)):=KS.out.r9.cell 0
   have d1:wr.cell? ⟨w2.heap.size+1+1,1,none⟩=some (B (l1 od)):=KS.out.r9.cell 1
   have d2:wr.cell? ⟨w2.heap.size+1+1,2,none⟩=some (B (l2 od)):=KS.out.r9.cell 2
   have d3:wr.cell? ⟨w2.heap.size+1+1,3,none⟩=some (B (l3 od)):=KS.out.r9.cell 3
   go_wp2_with fail
   refine (c3.out _).mono ?_
   rintro e w5 ⟨rfl,hb5⟩
   have K5:Hid (DS w w5 (w2.heap.size+1) (w2.heap.size+1+1) (w2.heap.size+1+1+1) (w2.heap.size+1+1+1+1) m r od t bf):=KS.out.call hb5
   have y1:=K5.out.o1
   have y2:=K5.out.o2
   have y3:=K5.out.o3
   have y4:=K5.out.o4
   have y11:=K5.out.r11.lt
   clear hb5 KS d0 d1 d2 d3 r0 r1 r2 r3 hz
   go_upto_region 12 with fail
   obtain ⟨bq,hbq⟩:∃ n,n=w5.heap.size:=⟨_,rfl⟩
   obtain ⟨br,hbr⟩:∃ n,n=bq+1:=⟨_,rfl⟩
   have E5:Hid (DS w ((w5.alloc (Obj.cells #[B (l0 q),B (l1 q),B (l2 q),B (l3 q)] 24)).alloc (Obj.cells #[B (l0 lf),B (l1 lf),B (l2 lf),B (l3 lf)] 24)) (w2.heap.size+1) (w2.heap.size+1+1) (w2.heap.size+1+1+1) (w2.heap.size+1+1+1+1) m r od t bf):=(K5.out.alloc _).alloc _
   have Eq:Hid (HRw ((w5.alloc (Obj.cells #[B (l0 q),B (l1 q),B (l2 q),B (l3 q)] 24)).alloc (Obj.cells #[B (l0 lf),B (l1 lf),B (l2 lf),B (l3 lf)] 24)) bq #[B (l0 q),B (l1 q),B (l2 q),B (l3 q)]):=HRw.old (HRw.last hbq)
   have Er:Hid (HRw ((w5.alloc (Obj.cells #[B (l0 q),B (l1 q),B (l2 q),B (l3 q)] 24)).alloc (Obj.cells #[B (l0 lf),B (l1 lf),B (l2 lf),B (l3 lf)] 24)) br #[B (l0 lf),B (l1 lf),B (l2 lf),B (l3 lf)]):=HRw.last (by rw[hbr,hbq];simp)
   rw[← hbq]
   rw[← hbr]
   rw[← hbq] at y11
   clear K5
   generalize (w5.alloc (Obj.cells #[B (l0 q),B (l1 q),B (l2 q),B (l3 q)] 24)).alloc (Obj.cells #[B (l0 lf),B (l1 lf),B (l2 lf),B (l3 lf)] 24)=wA at *
   obtain ⟨N0,hN0⟩:∃ n,n=wA.heap.size:=⟨_,rfl⟩
   have hN:br<N0:=by rw[hN0];exact Er.out.lt
   have y5:w2.heap.size+1+1+1+1<br:=by omega
   have hNq:bq<N0:=by omega
   have hqr:bq<br:=by omega
   clear hbq hbr
   refine wRv2 (by kernel_rfl) (by kernel_rfl) (by kernel_rfl) (CI12 w N0 (w2.heap.size+1) (w2.heap.size+1+1) (w2.heap.size+1+1+1) (w2.heap.size+1+1+1+1) bq br m r od t bf q lf x nt) ?_ ?_ ?_
   ·refine ⟨E5.out.bw.drew,by rw[hN0];exact Nat.le_refl _,E5.out.r11,Eq.out,E5.out.r10,E5.out.rm,E5.out.r9,E5.out.r8,Er.out,E5.out.rr,E5.out.ro,?_,?_,?_,?_,?_,?_,?_,?_,?_⟩<;>(intro h;simp[Array.getD] at h)
   ·intro lz vs a' w' i o' hs ho hi hF cc
    have hin:i<9:=by have:=(Array.getElem?_eq_some_iff.1 ho).1;simpa using this
    have hcase:i=0∨i=1∨i=2∨i=3∨i=4∨i=5∨i=6∨i=7∨i=8:=by omega
    rcases hcase with rfl | rfl | rfl | rfl | rfl | rfl | rfl | rfl | rfl
    ·simp at ho
     subst ho
     have T:=dT lz 0
     have S:=dS lz 0
     exact wp_rowF 24 (.tmp 11) rfl (w2.heap.size+1+1+1+1) ((hF.old (by kernel_rfl)).trans rfl) cc.R0 rfl Tryz.underlying24 (by kernel_rfl) ⟨_,rfl,⟨cc.bw,cc.ms,cc.R0,cc.R1,cc.R2,cc.R3,cc.R4,cc.R5,cc.R6,cc.R7,cc.R8,fun _=>rfl,fun h=>cc.c1 (T 1 (by decide) h),fun h=>cc.c2 (T 2 (by decide) h),fun h=>cc.c3 (T 3 (by decide) h),fun h=>cc.c4 (T 4 (by decide) h),fun h=>cc.c5 (T 5 (by decide) h),fun h=>cc.c6 (T 6 (by decide) h),fun h=>by obtain ⟨g',c',e',k1,k2,k3,k4⟩:=cc.c7 (T 7 (by decide) h);exact ⟨g',c',e',k1,k2,k3,fun h6=>k4 (T 8 (by decide) h6)⟩,fun h=>S 7 (cc.c8 (T 8 (by decide) h))⟩⟩
    ·simp at ho
     subst ho
     have T:=dT lz 1
     have S:=dS lz 1
     exact wp_rowF 24 (.tmp 13) rfl (bq) ((hF.old (by kernel_rfl)).trans rfl) cc.R1 rfl Tryz.underlying24 (by kernel_rfl) ⟨_,rfl,⟨cc.bw,cc.ms,cc.R0,cc.R1,cc.R2,cc.R3,cc.R4,cc.R5,cc.R6,cc.R7,cc.R8,fun h=>cc.c0 (T 0 (by decide) h),fun _=>rfl,fun h=>cc.c2 (T 2 (by decide) h),fun h=>cc.c3 (T 3 (by decide) h),fun h=>cc.c4 (T 4 (by decide) h),fun h=>cc.c5 (T 5 (by decide) h),fun h=>cc.c6 (T 6 (by decide) h),fun h=>by obtain ⟨g',c',e',k1,k2,k3,k4⟩:=cc.c7 (T 7 (by decide) h);exact ⟨g',c',e',k1,k2,k3,fun h6=>k4 (T 8 (by decide) h6)⟩,fun h=>S 7 (cc.c8 (T 8 (by decide) h))⟩⟩
    ·simp at ho
     subst ho
     have T:=dT lz 2
     have S:=dS lz 2
     exact wp_rowF 24 (.tmp 10) rfl (w2.heap.size+1+1+1) ((hF.old (by kernel_rfl)).trans rfl) cc.R2 rfl Tryz.underlying24 (by kernel_rfl) ⟨_,rfl,⟨cc.bw,cc.ms,cc.R0,cc.R1,cc.R2,cc.R3,cc.R4,cc.R5,cc.R6,cc.R7,cc.R8,fun h=>cc.c0 (T 0 (by decide) h),fun h=>cc.c1 (T 1 (by decide) h),fun _=>rfl,fun h=>cc.c3 (T 3 (by decide) h),fun h=>cc.c4 (T 4 (by decide) h),fun h=>cc.c5 (T 5 (by decide) h),fun h=>cc.c6 (T 6 (by decide) h),fun h=>by obtain ⟨g',c',e',k1,k2,k3,k4⟩:=cc.c7 (T 7 (by decide) h);exact ⟨g',c',e',k1,k2,k3,fun h6=>k4 (T 8 (by decide) h6)⟩,fun h=>S 7 (cc.c8 (T 8 (by decide) h))⟩⟩
    ·simp at ho
     subst ho
     have T:=dT lz 3
     have S:=dS lz 3
     exact wp_rowF 24 (.tmp 3) rfl (w.heap.size+1) ((hF.old (by kernel_rfl)).trans rfl) cc.R3 rfl Tryz.underlying24 (by kernel_rfl) ⟨_,rfl,⟨cc.bw,cc.ms,cc.R0,cc.R1,cc.R2,cc.R3,cc.R4,cc.R5,cc.R6,cc.R7,cc.R8,fun h=>cc.c0 (T 0 (by decide) h),fun h=>cc.c1 (T 1 (by decide) h),fun h=>cc.c2 (T 2 (by decide) h),fun _=>rfl,fun h=>cc.c4 (T 4 (by decide) h),fun h=>cc.c5 (T 5 (by decide) h),fun h=>cc.c6 (T 6 (by decide) h),fun h=>by obtain ⟨g',c',e',k1,k2,k3,k4⟩:=cc.c7 (T 7 (by decide) h);exact ⟨g',c',e',k1,k2,k3,fun h6=>k4 (T 8 (by decide) h6)⟩,fun h=>S 7 (cc.c8 (T 8 (by decide) h))⟩⟩
    ·simp at ho
     subst ho
     have T:=dT lz 4
     have S:=dS lz 4
     have hv0:=((hF.new (t:=47) (i:=1) (by kernel_rfl) (by simp) (wDn (i:=4) (j:=1) (by kernel_rfl) hi)).trans (cc.c1 (wDn (i:=4) (j:=1) (by kernel_rfl) hi)))
     have hv1:=((hF.new (t:=48) (i:=2) (by kernel_rfl) (by simp) (wDn (i:=4) (j:=2) (by kernel_rfl) hi)).trans (cc.c2 (wDn (i:=4) (j:=2) (by kernel_rfl) hi)))
     have hv2:=((hF.new (t:=49) (i:=3) (by kernel_rfl) (by simp) (wDn (i:=4) (j:=3) (by kernel_rfl) hi)).trans (cc.c3 (wDn (i:=4) (j:=3) (by kernel_rfl) hi)))
     refine wp_callF (f:=86) (args:=#[U q,U t,U m]) (v:=U x) (by simp[execOp_call_go,ev hv0,ev hv1,ev hv2,go_sem]) (c4.out w') ?_
     intro w'' hb''
     exact ⟨_,rfl,⟨cc.bw.trans (hb''.mono cc.bw.size),Nat.le_trans cc.ms hb''.size,cc.R0.below hb'',cc.R1.below hb'',cc.R2.below hb'',cc.R3.below hb'',cc.R4.below hb'',cc.R5.below hb'',cc.R6.below hb'',cc.R7.below hb'',cc.R8.below hb'',fun h=>cc.c0 (T 0 (by decide) h),fun h=>cc.c1 (T 1 (by decide) h),fun h=>cc.c2 (T 2 (by decide) h),fun h=>cc.c3 (T 3 (by decide) h),fun _=>rfl,fun h=>cc.c5 (T 5 (by decide) h),fun h=>cc.c6 (T 6 (by decide) h),fun h=>by obtain ⟨g',c',e',k1,k2,k3,k4⟩:=cc.c7 (T 7 (by decide) h);exact ⟨g',c',e',k1,k2.below hb'',k3,fun h6=>k4 (T 8 (by decide) h6)⟩,fun h=>S 7 (cc.c8 (T 8 (by decide) h))⟩⟩
    ·simp at ho
     subst ho
     have T:=dT lz 5
     have S:=dS lz 5
     exact wp_rowF 24 (.tmp 3) rfl (w.heap.size+1) ((hF.old (by kernel_rfl)).trans rfl) cc.R3 rfl Tryz.underlying24 (by kernel_rfl) ⟨_,rfl,⟨cc.bw,cc.ms,cc.R0,cc.R1,cc.R2,cc.R3,cc.R4,cc.R5,cc.R6,cc.R7,cc.R8,fun h=>cc.c0 (T 0 (by decide) h),fun h=>cc.c1 (T 1 (by decide) h),fun h=>cc.c2 (T 2 (by decide) h),fun h=>cc.c3 (T 3 (by decide) h),fun h=>cc.c4 (T 4 (by decide) h),fun _=>rfl,fun h=>cc.c6 (T 6 (by decide) h),fun h=>by obtain ⟨g',c',e',k1,k2,k3,k4⟩:=cc.c7 (T 7 (by decide) h);exact ⟨g',c',e',k1,k2,k3,fun h6=>k4 (T 8 (by decide) h6)⟩,fun h=>S 7 (cc.c8 (T 8 (by decide) h))⟩⟩
    ·simp at ho
     subst ho
     have T:=dT lz 6
     have S:=dS lz 6
     have hv0:=((hF.new (t:=46) (i:=0) (by kernel_rfl) (by simp) (wDn (i:=6) (j:=0) (by kernel_rfl) hi)).trans (cc.c0 (wDn (i:=6) (j:=0) (by kernel_rfl) hi)))
     have hv1:=((hF.new (t:=50) (i:=4) (by kernel_rfl) (by simp) (wDn (i:=6) (j:=4) (by kernel_rfl) hi)).trans (cc.c4 (wDn (i:=6) (j:=4) (by kernel_rfl) hi)))
     have hv2:=((hF.new (t:=51) (i:=5) (by kernel_rfl) (by simp) (wDn (i:=6) (j:=5) (by kernel_rfl) hi)).trans (cc.c5 (wDn (i:=6) (j:=5) (by kernel_rfl) hi)))
     refine wp_callF (f:=85) (args:=#[U bf,U x,U m]) (v:=U nt) (by simp[execOp_call_go,ev hv0,ev hv1,ev hv2,go_sem]) (c5.out w') ?_
     intro w'' hb''
     exact ⟨_,rfl,⟨cc.bw.trans (hb''.mono cc.bw.size),Nat.le_trans cc.ms hb''.size,cc.R0.below hb'',cc.R1.below hb'',cc.R2.below hb'',cc.R3.below hb'',cc.R4.below hb'',cc.R5.below hb'',cc.R6.below hb'',cc.R7.below hb'',cc.R8.below hb'',fun h=>cc.c0 (T 0 (by decide) h),fun h=>cc.c1 (T 1 (by decide) h),fun h=>cc.c2 (T 2 (by decide) h),fun h=>cc.c3 (T 3 (by decide) h),fun h=>cc.c4 (T 4 (by decide) h),fun h=>cc.c5 (T 5 (by decide) h),fun _=>rfl,fun h=>by obtain ⟨g',c',e',k1,k2,k3,k4⟩:=cc.c7 (T 7 (by decide) h);exact ⟨g',c',e',k1,k2.below hb'',k3,fun h6=>k4 (T 8 (by decide) h6)⟩,fun h=>S 7 (cc.c8 (T 8 (by decide) h))⟩⟩
    ·simp at ho
     subst ho
     have T:=dT lz 7
     have S:=dS lz 7
     have hun:¬ lz.getD 7 false=true:=fun h=>undone hi hs h
     exact wVF (v:=.pointer (some ⟨w'.heap.size,0,none⟩)) (w1:=w'.alloc (.cells #[.int .u64 0,.int .u64 0,.int .u64 0,.int .u64 0] 24)) (by simp[execOp,go_sem]) ⟨_,rfl,⟨bAl cc.bw _,by have:=cc.ms;simp;omega,cc.R0.old,cc.R1.old,cc.R2.old,cc.R3.old,cc.R4.old,cc.R5.old,cc.R6.old,cc.R7.old,cc.R8.old,fun h=>cc.c0 (T 0 (by decide) h),fun h=>cc.c1 (T 1 (by decide) h),fun h=>cc.c2 (T 2 (by decide) h),fun h=>cc.c3 (T 3 (by decide) h),fun h=>cc.c4 (T 4 (by decide) h),fun h=>cc.c5 (T 5 (by decide) h),fun h=>cc.c6 (T 6 (by decide) h),fun _=>⟨w'.heap.size,#[.int .u64 0,.int .u64 0,.int .u64 0,.int .u64 0],rfl,cc.ms,HRw.last rfl,rfl,fun h6=>absurd (cc.c8 (T 8 (by decide) h6)) hun⟩,fun h=>S 7 (cc.c8 (T 8 (by decide) h))⟩⟩
    ·simp at ho
     subst ho
     have T:=dT lz 8
     have S:=dS lz 8
     have d4:=(wDn (i:=8) (j:=7) (by kernel_rfl) hi)
     obtain ⟨g,c,e,h1,h2,h3,h4⟩:=cc.c7 d4
     have hx:=(hF.new (t:=15) (i:=7) (by kernel_rfl) (by simp) d4).trans e
     have hv:=((hF.new (t:=52) (i:=6) (by kernel_rfl) (by simp) (wDn (i:=8) (j:=6) (by kernel_rfl) hi)).trans (cc.c6 (wDn (i:=8) (j:=6) (by kernel_rfl) hi)))
     exact wp_rowS 24 (.tmp 15) (.tmp 52) rfl g (c':=#[B (l0 nt),B (l1 nt),B (l2 nt),B (l3 nt)]) hx hv h2 h3 rfl (by simp[Value.oneCell']) (by kernel_rfl) ⟨_,rfl,⟨bSR cc.bw (by omega) _,by rw[sSR];exact cc.ms,cc.R0.set_other _ (by omega),cc.R1.set_other _ (by omega),cc.R2.set_other _ (by omega),cc.R3.set_other _ (by omega),cc.R4.set_other _ (by omega),cc.R5.set_other _ (by omega),cc.R6.set_other _ (by omega),cc.R7.set_other _ (by omega),cc.R8.set_other _ (by omega),fun h=>cc.c0 (T 0 (by decide) h),fun h=>cc.c1 (T 1 (by decide) h),fun h=>cc.c2 (T 2 (by decide) h),fun h=>cc.c3 (T 3 (by decide) h),fun h=>cc.c4 (T 4 (by decide) h),fun h=>cc.c5 (T 5 (by decide) h),fun h=>cc.c6 (T 6 (by decide) h),fun h=>⟨g,_,e,h1,h2.set_same _,rfl,fun _=>rfl⟩,fun _=>S 7 d4⟩⟩
   ·intro lz vs a' w' hd hF cc
    have e:a'=({ tmps:=#[U a,U m,.pointer (some ⟨w.heap.size,0,none⟩),.pointer (some ⟨w.heap.size+1,0,none⟩),.pointer (some ⟨w.heap.size+1+1,0,none⟩),.bool false,.pointer (some ⟨w.heap.size+1+1+1,0,none⟩),.pointer (some ⟨w2.heap.size,0,none⟩),.pointer (some ⟨w2.heap.size+1,0,none⟩),.pointer (some ⟨w2.heap.size+1+1,0,none⟩),.pointer (some ⟨w2.heap.size+1+1+1,0,none⟩),.pointer (some ⟨w2.heap.size+1+1+1+1,0,none⟩),.int .i64 (i:Int),.pointer (some ⟨bq,0,none⟩),.pointer (some ⟨br,0,none⟩),vs 7,.agg #[.int .u64 1,.int .u64 0,.int .u64 0,.int .u64 0],.agg #[B (l0 m),B (l1 m),B (l2 m),B (l3 m)],.agg #[.int .u64 1,.int .u64 0,.int .u64 0,.int .u64 0],.int .i64 1,.bool false,undef,.tuple #[U q0,U r0],.agg #[B (l0 a),B (l1 a),B (l2 a),B (l3 a)],.agg #[B (l0 m),B (l1 m),B (l2 m),B (l3 m)],.tuple #[U q0,U r0],U q0,U r0,.agg #[B (l0 m),B (l1 m),B (l2 m),B (l3 m)],.agg #[.int .u64 1,.int .u64 0,.int .u64 0,.int .u64 0],.agg #[.int .u64 0,.int .u64 0,.int .u64 0,.int .u64 0],.int .i64 (i:Int),.bool true,.bool true,.agg #[B (l0 r),B (l1 r),B (l2 r),B (l3 r)],.agg #[.int .u64 0,.int .u64 0,.int .u64 0,.int .u64 0],.bool true,.bool true,u38,u39,.tuple #[U q,U lf],.agg #[B (l0 od),B (l1 od),B (l2 od),B (l3 od)],.agg #[B (l0 r),B (l1 r),B (l2 r),B (l3 r)],.tuple #[U q,U lf],U q,U lf,vs 0,vs 1,vs 2,vs 3,vs 4,vs 5,vs 6,u53,u54,u55,u56,undef,undef,undef,undef,undef],defers:=[] }:Act):=(hF.all hd).trans (by kernel_rfl)
    subst e
    obtain ⟨g15,c15,e15,a1,a2,a3,a4⟩:=cc.c7 (hd 7 (by simp))
    have X0:Hid (DX w w' (w2.heap.size+1) (w2.heap.size+1+1) (w2.heap.size+1+1+1) (w2.heap.size+1+1+1+1) br g15 m r od t bf lf nt):=⟨⟨cc.R3,cc.R7,cc.R8,cc.R5,cc.R4,cc.R2,cc.R0,cc.bw,y1,y2,y3,y4⟩,cc.R6,a4 (hd 8 (by simp)) ▸ a2,y5,by omega⟩
    rw[e15]
    generalize vs 0=p0
    generalize vs 1=p1
    generalize vs 2=p2
    generalize vs 3=p3
    generalize vs 4=p4
    generalize vs 5=p5
    generalize vs 6=p6
    clear cc hd hF e15 a1 a2 a3 a4
    go_upto_region 13 with fail
    generalize w'=wB at *
    have s0:wB.cell? ⟨w2.heap.size+1,0,none⟩=some (B (l0 r)):=X0.out.s.r8.cell 0
    have s1:wB.cell? ⟨w2.heap.size+1,1,none⟩=some (B (l1 r)):=X0.out.s.r8.cell 1
    have s2:wB.cell? ⟨w2.heap.size+1,2,none⟩=some (B (l2 r)):=X0.out.s.r8.cell 2
    have s3:wB.cell? ⟨w2.heap.size+1,3,none⟩=some (B (l3 r)):=X0.out.s.r8.cell 3
    have g0:wB.cell? ⟨w2.heap.size+1+1,0,none⟩=some (B (l0 od)):=X0.out.s.r9.cell 0
    have g1:wB.cell? ⟨w2.heap.size+1+1,1,none⟩=some (B (l1 od)):=X0.out.s.r9.cell 1
    have g2:wB.cell? ⟨w2.heap.size+1+1,2,none⟩=some (B (l2 od)):=X0.out.s.r9.cell 2
    have g3:wB.cell? ⟨w2.heap.size+1+1,3,none⟩=some (B (l3 od)):=X0.out.s.r9.cell 3
    have gz0:=X0.out.s.r9.frozen 0
    have gz1:=X0.out.s.r9.frozen 1
    have gz2:=X0.out.s.r9.frozen 2
    have gz3:=X0.out.s.r9.frozen 3
    have gq:=X0.out.s.r9.lt
    have sq:=X0.out.s.r8.lt
    go_upto_region 14 with fail
    rw[set4 X0.out.s.r9 rfl]
    have NX0:Hid (DX w (wB.setRow (w2.heap.size+1+1) #[B (l0 r),B (l1 r),B (l2 r),B (l3 r)]) (w2.heap.size+1) (w2.heap.size+1+1) (w2.heap.size+1+1+1) (w2.heap.size+1+1+1+1) br g15 m r r t bf lf nt):=X0.out.put9 r
    clear X0 s0 s1 s2 s3 g0 g1 g2 g3 gz0 gz1 gz2 gz3 gq sq
    generalize wB.setRow (w2.heap.size+1+1) #[B (l0 r),B (l1 r),B (l2 r),B (l3 r)]=wC at *
    have s0:wC.cell? ⟨br,0,none⟩=some (B (l0 lf)):=NX0.out.xl.cell 0
    have s1:wC.cell? ⟨br,1,none⟩=some (B (l1 lf)):=NX0.out.xl.cell 1
    have s2:wC.cell? ⟨br,2,none⟩=some (B (l2 lf)):=NX0.out.xl.cell 2
    have s3:wC.cell? ⟨br,3,none⟩=some (B (l3 lf)):=NX0.out.xl.cell 3
    have g0:wC.cell? ⟨w2.heap.size+1,0,none⟩=some (B (l0 r)):=NX0.out.s.r8.cell 0
    have g1:wC.cell? ⟨w2.heap.size+1,1,none⟩=some (B (l1 r)):=NX0.out.s.r8.cell 1
    have g2:wC.cell? ⟨w2.heap.size+1,2,none⟩=some (B (l2 r)):=NX0.out.s.r8.cell 2
    have g3:wC.cell? ⟨w2.heap.size+1,3,none⟩=some (B (l3 r)):=NX0.out.s.r8.cell 3
    have gz0:=NX0.out.s.r8.frozen 0
    have gz1:=NX0.out.s.r8.frozen 1
    have gz2:=NX0.out.s.r8.frozen 2
    have gz3:=NX0.out.s.r8.frozen 3
    have gq:=NX0.out.s.r8.lt
    have sq:=NX0.out.xl.lt
    go_upto_region 15 with fail
    rw[set4 NX0.out.s.r8 rfl]
    have NNX0:Hid (DX w (wC.setRow (w2.heap.size+1) #[B (l0 lf),B (l1 lf),B (l2 lf),B (l3 lf)]) (w2.heap.size+1) (w2.heap.size+1+1) (w2.heap.size+1+1+1) (w2.heap.size+1+1+1+1) br g15 m lf r t bf lf nt):=NX0.out.put8 lf
    clear NX0 s0 s1 s2 s3 g0 g1 g2 g3 gz0 gz1 gz2 gz3 gq sq
    generalize wC.setRow (w2.heap.size+1) #[B (l0 lf),B (l1 lf),B (l2 lf),B (l3 lf)]=wD at *
    have s0:wD.cell? ⟨w2.heap.size+1+1+1,0,none⟩=some (B (l0 t)):=NNX0.out.s.r10.cell 0
    have s1:wD.cell? ⟨w2.heap.size+1+1+1,1,none⟩=some (B (l1 t)):=NNX0.out.s.r10.cell 1
    have s2:wD.cell? ⟨w2.heap.size+1+1+1,2,none⟩=some (B (l2 t)):=NNX0.out.s.r10.cell 2
    have s3:wD.cell? ⟨w2.heap.size+1+1+1,3,none⟩=some (B (l3 t)):=NNX0.out.s.r10.cell 3
    have g0:wD.cell? ⟨w2.heap.size+1+1+1+1,0,none⟩=some (B (l0 bf)):=NNX0.out.s.r11.cell 0
    have g1:wD.cell? ⟨w2.heap.size+1+1+1+1,1,none⟩=some (B (l1 bf)):=NNX0.out.s.r11.cell 1
    have g2:wD.cell? ⟨w2.heap.size+1+1+1+1,2,none⟩=some (B (l2 bf)):=NNX0.out.s.r11.cell 2
    have g3:wD.cell? ⟨w2.heap.size+1+1+1+1,3,none⟩=some (B (l3 bf)):=NNX0.out.s.r11.cell 3
    have gz0:=NNX0.out.s.r11.frozen 0
    have gz1:=NNX0.out.s.r11.frozen 1
    have gz2:=NNX0.out.s.r11.frozen 2
    have gz3:=NNX0.out.s.r11.frozen 3
    have gq:=NNX0.out.s.r11.lt
    have sq:=NNX0.out.s.r10.lt
    go_upto_region 16 with fail
    rw[set4 NNX0.out.s.r11 rfl]
    have NNNX0:Hid (DX w (wD.setRow (w2.heap.size+1+1+1+1) #[B (l0 t),B (l1 t),B (l2 t),B (l3 t)]) (w2.heap.size+1) (w2.heap.size+1+1) (w2.heap.size+1+1+1) (w2.heap.size+1+1+1+1) br g15 m lf r t t lf nt):=NNX0.out.put11 t
    clear NNX0 s0 s1 s2 s3 g0 g1 g2 g3 gz0 gz1 gz2 gz3 gq sq
    generalize wD.setRow (w2.heap.size+1+1+1+1) #[B (l0 t),B (l1 t),B (l2 t),B (l3 t)]=wE at *
    have s0:wE.cell? ⟨g15,0,none⟩=some (B (l0 nt)):=NNNX0.out.xn.cell 0
    have s1:wE.cell? ⟨g15,1,none⟩=some (B (l1 nt)):=NNNX0.out.xn.cell 1
    have s2:wE.cell? ⟨g15,2,none⟩=some (B (l2 nt)):=NNNX0.out.xn.cell 2
    have s3:wE.cell? ⟨g15,3,none⟩=some (B (l3 nt)):=NNNX0.out.xn.cell 3
    have g0:wE.cell? ⟨w2.heap.size+1+1+1,0,none⟩=some (B (l0 t)):=NNNX0.out.s.r10.cell 0
    have g1:wE.cell? ⟨w2.heap.size+1+1+1,1,none⟩=some (B (l1 t)):=NNNX0.out.s.r10.cell 1
    have g2:wE.cell? ⟨w2.heap.size+1+1+1,2,none⟩=some (B (l2 t)):=NNNX0.out.s.r10.cell 2
    have g3:wE.cell? ⟨w2.heap.size+1+1+1,3,none⟩=some (B (l3 t)):=NNNX0.out.s.r10.cell 3
    have gz0:=NNNX0.out.s.r10.frozen 0
    have gz1:=NNNX0.out.s.r10.frozen 1
    have gz2:=NNNX0.out.s.r10.frozen 2
    have gz3:=NNNX0.out.s.r10.frozen 3
    have gq:=NNNX0.out.s.r10.lt
    have sq:=NNNX0.out.xn.lt
    go_upto_region 10 with fail
    rw[set4 NNNX0.out.s.r10 rfl]
    have NNNNX0:Hid (DX w (wE.setRow (w2.heap.size+1+1+1) #[B (l0 nt),B (l1 nt),B (l2 nt),B (l3 nt)]) (w2.heap.size+1) (w2.heap.size+1+1) (w2.heap.size+1+1+1) (w2.heap.size+1+1+1+1) br g15 m lf r nt t lf nt):=NNNX0.out.put10 nt
    clear NNNX0 s0 s1 s2 s3 g0 g1 g2 g3 gz0 gz1 gz2 gz3 gq sq
    generalize wE.setRow (w2.heap.size+1+1+1) #[B (l0 nt),B (l1 nt),B (l2 nt),B (l3 nt)]=wG at *
    go_wp2
    go_roundw
    case rel=>exact ⟨i+1,r,lf,t,nt,by go_num,NNNNX0.out.s,KN.out⟩
    case measure=>simp[intOf];omega
theorem rinv_any(a m:Nat)(ha:a<W)(hm:m<W)(w:World):Calls Tryz.prog 40 #[U a,U m] w fun e w'=>(∃ x ok,IV a m x ok∧x<W∧e=.returned (.tuple #[U x,.bool ok]))∧Below w.heap.size w w':=by
 rcases Nat.lt_or_ge 1 m with h1 | h1
 ·refine rinv_main a m (a/m) h1 hm (fun w=>?_) (fun w=>?_) (fun x y hx hy h0 w=>?_) (fun x y hx hy w=>rmulmod_any x y m hx hy hm w) (fun x y hx hy w=>minus_any x y m hx hy hm w) (fun x hx w=>eqU_lit x 0 hx W_pos _ U_zero w) (fun x hx w=>eqU_lit x 1 hx (by decide +kernel) _ U_1 w) w
  ·have h:=rcmp_any m 1 hm (by decide +kernel) w
   have e:cmpN m 1=1:=by unfold cmpN;rw[if_neg (by omega),if_pos h1]
   rw[e,U_1] at h;exact h
  ·have h:=rdiv_any a m ha hm w
   have e:dr 0 a m=a%m:=by unfold dr;rw[if_neg (by omega),Nat.zero_mul,Nat.zero_add]
   rw[e] at h;exact h
  ·have h:=rdiv_any x y hx hy w
   have e:dr 0 x y=x%y:=by unfold dr;rw[if_neg (by omega),Nat.zero_mul,Nat.zero_add]
   rw[e] at h;exact h
 ·refine rinv_low a m (cmpN m 1) ?_ (fun w=>?_) h1 w
  ·unfold cmpN
   split
   ·decide
   ·rw[if_neg (by omega)];decide
  ·have h:=rcmp_any m 1 hm (by decide +kernel) w
   rw[U_1] at h;exact h
end
end Go.Proofs.YtfhppenjbmmadaaGreatDoor
