import Derived.Test.YtfhppenjbmmadaaGreatDoorXmM12
import Derived.Lib.ItoaNum
namespace Go.Proofs.YtfhppenjbmmadaaGreatDoor
set_option linter.unusedVariables false
set_option maxHeartbeats 8000000
section
open Go.RowKit Go.Sort
attribute [local go_sem] run_eq4 run_eqU_same
theorem U_1:U 1=I4 1 0 0 0:=by kernel_rfl
set_option maxRecDepth 100000 in
theorem mulmod_raw(a b m h l x:Nat)(c1:Hid (∀ w,Calls Tryz.prog 137 #[U a,U b] w fun e w'=>e=.returned (.tuple #[U h,U l])∧Below w.heap.size w w'))(c2:Hid (∀ w,Calls Tryz.prog 138 #[U h,U l,U m] w fun e w'=>e=.returned (U x)∧Below w.heap.size w w'))(w:World) :
  Calls Tryz.prog 105 #[U a,U b,U m] w fun e w'=>e=.returned (U x)∧Below w.heap.size w w':=by
 go_enter Tryz.func105,Tryz.ntmps105
 go_wp2_with fail
 refine (c1.out _).mono ?_
 rintro e w1 ⟨rfl,hb1⟩
 have Rm:Hid (HRw w1 (w.heap.size+1+1) #[B (l0 m),B (l1 m),B (l2 m),B (l3 m)]):=(HRw.old (HRw.last (by simp))).below hb1
 have Rr:Hid (HRw w1 (w.heap.size+1+1+1) #[.int .u64 0,.int .u64 0,.int .u64 0,.int .u64 0]):=(HRw.last (by simp)).below hb1
 have B1:Hid (Below w.heap.size w w1):=bCl (by (repeat (first | exact Below.refl _ _ | refine bAl ?_ _))) hb1
 have m0:w1.cell? ⟨w.heap.size+1+1,0,none⟩=some (B (l0 m)):=Rm.out.cell 0
 have m1:w1.cell? ⟨w.heap.size+1+1,1,none⟩=some (B (l1 m)):=Rm.out.cell 1
 have m2:w1.cell? ⟨w.heap.size+1+1,2,none⟩=some (B (l2 m)):=Rm.out.cell 2
 have m3:w1.cell? ⟨w.heap.size+1+1,3,none⟩=some (B (l3 m)):=Rm.out.cell 3
 have mz:=Rr.out.lt
 have mq0:w.heap.size<w1.heap.size:=by omega
 have mq1:w.heap.size+1<w1.heap.size:=by omega
 have mq2:w.heap.size+1+1<w1.heap.size:=by omega
 have mq3:w.heap.size+1+1+1<w1.heap.size:=by omega
 clear hb1
 go_wp2_with fail
 refine (c2.out _).mono ?_
 rintro e w2 ⟨rfl,hb2⟩
 have R2:Hid (HRw w2 (w.heap.size+1+1+1) #[.int .u64 0,.int .u64 0,.int .u64 0,.int .u64 0]):=(HRw.old (HRw.old Rr.out)).below hb2
 have B2:Hid (Below w.heap.size w w2):=bCl (bAl (bAl B1.out _) _) hb2
 clear hb2 Rr B1 m0 m1 m2 m3 mq0 mq1 mq2 mq3 mz Rm
 have g0:w2.cell? ⟨w.heap.size+1+1+1,0,none⟩=some (.int .u64 0):=R2.out.cell 0
 have g1:w2.cell? ⟨w.heap.size+1+1+1,1,none⟩=some (.int .u64 0):=R2.out.cell 1
 have g2:w2.cell? ⟨w.heap.size+1+1+1,2,none⟩=some (.int .u64 0):=R2.out.cell 2
 have g3:w2.cell? ⟨w.heap.size+1+1+1,3,none⟩=some (.int .u64 0):=R2.out.cell 3
 have gz0:=R2.out.frozen 0
 have gz1:=R2.out.frozen 1
 have gz2:=R2.out.frozen 2
 have gz3:=R2.out.frozen 3
 have gq:=R2.out.lt
 go_wp2
 rw[set4 R2.out rfl]
 exact bodyPost_ret (v:=U x) (rC1 (p:=6) (ty:=24) rfl (g:=w.heap.size+1+1+1) rfl (R2.out.set_same _) rfl Tryz.underlying24 (by kernel_rfl)) rfl ⟨rfl,bSR B2.out (by omega) _⟩
set_option maxRecDepth 100000 in
theorem rmulmod_raw(a b m h l x:Nat)(c1:Hid (∀ w,Calls Tryz.prog 89 #[U a,U b] w fun e w'=>e=.returned (.tuple #[U h,U l])∧Below w.heap.size w w'))(c2:Hid (∀ w,Calls Tryz.prog 77 #[U h,U l,U m] w fun e w'=>e=.returned (U x)∧Below w.heap.size w w'))(w:World) :
  Calls Tryz.prog 86 #[U a,U b,U m] w fun e w'=>e=.returned (U x)∧Below w.heap.size w w':=by
 go_enter Tryz.func86,Tryz.ntmps86
 go_wp2_with fail
 refine (c1.out _).mono ?_
 rintro e w1 ⟨rfl,hb1⟩
 have Rm:Hid (HRw w1 (w.heap.size+1+1) #[B (l0 m),B (l1 m),B (l2 m),B (l3 m)]):=(HRw.old (HRw.last (by simp))).below hb1
 have Rr:Hid (HRw w1 (w.heap.size+1+1+1) #[.int .u64 0,.int .u64 0,.int .u64 0,.int .u64 0]):=(HRw.last (by simp)).below hb1
 have B1:Hid (Below w.heap.size w w1):=bCl (by (repeat (first | exact Below.refl _ _ | refine bAl ?_ _))) hb1
 have m0:w1.cell? ⟨w.heap.size+1+1,0,none⟩=some (B (l0 m)):=Rm.out.cell 0
 have m1:w1.cell? ⟨w.heap.size+1+1,1,none⟩=some (B (l1 m)):=Rm.out.cell 1
 have m2:w1.cell? ⟨w.heap.size+1+1,2,none⟩=some (B (l2 m)):=Rm.out.cell 2
 have m3:w1.cell? ⟨w.heap.size+1+1,3,none⟩=some (B (l3 m)):=Rm.out.cell 3
 have mz:=Rr.out.lt
 have mq0:w.heap.size<w1.heap.size:=by omega
 have mq1:w.heap.size+1<w1.heap.size:=by omega
 have mq2:w.heap.size+1+1<w1.heap.size:=by omega
 have mq3:w.heap.size+1+1+1<w1.heap.size:=by omega
 clear hb1
 go_wp2_with fail
 refine (c2.out _).mono ?_
 rintro e w2 ⟨rfl,hb2⟩
 have R2:Hid (HRw w2 (w.heap.size+1+1+1) #[.int .u64 0,.int .u64 0,.int .u64 0,.int .u64 0]):=(HRw.old (HRw.old Rr.out)).below hb2
 have B2:Hid (Below w.heap.size w w2):=bCl (bAl (bAl B1.out _) _) hb2
 clear hb2 Rr B1 m0 m1 m2 m3 mq0 mq1 mq2 mq3 mz Rm
 have g0:w2.cell? ⟨w.heap.size+1+1+1,0,none⟩=some (.int .u64 0):=R2.out.cell 0
 have g1:w2.cell? ⟨w.heap.size+1+1+1,1,none⟩=some (.int .u64 0):=R2.out.cell 1
 have g2:w2.cell? ⟨w.heap.size+1+1+1,2,none⟩=some (.int .u64 0):=R2.out.cell 2
 have g3:w2.cell? ⟨w.heap.size+1+1+1,3,none⟩=some (.int .u64 0):=R2.out.cell 3
 have gz0:=R2.out.frozen 0
 have gz1:=R2.out.frozen 1
 have gz2:=R2.out.frozen 2
 have gz3:=R2.out.frozen 3
 have gq:=R2.out.lt
 go_wp2
 rw[set4 R2.out rfl]
 exact bodyPost_ret (v:=U x) (rC1 (p:=6) (ty:=24) rfl (g:=w.heap.size+1+1+1) rfl (R2.out.set_same _) rfl Tryz.underlying24 (by kernel_rfl)) rfl ⟨rfl,bSR B2.out (by omega) _⟩
set_option maxRecDepth 100000 in
theorem addmod0_raw(a b m s x:Nat)(c1:Hid (∀ w,Calls Tryz.prog 124 #[U a,U b] w fun e w'=>e=.returned (.tuple #[U s,.bool false])∧Below w.heap.size w w'))(c2:Hid (∀ w,Calls Tryz.prog 138 #[I4 0 0 0 0,U s,U m] w fun e w'=>e=.returned (U x)∧Below w.heap.size w w'))(w:World) :
  Calls Tryz.prog 143 #[U a,U b,U m] w fun e w'=>e=.returned (U x)∧Below w.heap.size w w':=by
 go_enter Tryz.func143,Tryz.ntmps143
 go_wp2_with fail
 refine (c1.out _).mono ?_
 rintro e w1 ⟨rfl,hb1⟩
 have Rm:Hid (HRw w1 (w.heap.size+1+1) #[B (l0 m),B (l1 m),B (l2 m),B (l3 m)]):=(HRw.old (HRw.last (by simp))).below hb1
 have Rr:Hid (HRw w1 (w.heap.size+1+1+1) #[.int .u64 0,.int .u64 0,.int .u64 0,.int .u64 0]):=(HRw.last (by simp)).below hb1
 have B1:Hid (Below w.heap.size w w1):=bCl (by (repeat (first | exact Below.refl _ _ | refine bAl ?_ _))) hb1
 have m0:w1.cell? ⟨w.heap.size+1+1,0,none⟩=some (B (l0 m)):=Rm.out.cell 0
 have m1:w1.cell? ⟨w.heap.size+1+1,1,none⟩=some (B (l1 m)):=Rm.out.cell 1
 have m2:w1.cell? ⟨w.heap.size+1+1,2,none⟩=some (B (l2 m)):=Rm.out.cell 2
 have m3:w1.cell? ⟨w.heap.size+1+1,3,none⟩=some (B (l3 m)):=Rm.out.cell 3
 have mz:=Rr.out.lt
 have mq0:w.heap.size<w1.heap.size:=by omega
 have mq1:w.heap.size+1<w1.heap.size:=by omega
 have mq2:w.heap.size+1+1<w1.heap.size:=by omega
 have mq3:w.heap.size+1+1+1<w1.heap.size:=by omega
 clear hb1
 go_wp2_with fail
 refine (c2.out _).mono ?_
 rintro e w2 ⟨rfl,hb2⟩
 have R2:Hid (HRw w2 (w.heap.size+1+1+1) #[.int .u64 0,.int .u64 0,.int .u64 0,.int .u64 0]):=(HRw.old (HRw.old Rr.out)).below hb2
 have B2:Hid (Below w.heap.size w w2):=bCl (bAl (bAl B1.out _) _) hb2
 clear hb2 Rr B1 m0 m1 m2 m3 mq0 mq1 mq2 mq3 mz Rm
 have g0:w2.cell? ⟨w.heap.size+1+1+1,0,none⟩=some (.int .u64 0):=R2.out.cell 0
 have g1:w2.cell? ⟨w.heap.size+1+1+1,1,none⟩=some (.int .u64 0):=R2.out.cell 1
 have g2:w2.cell? ⟨w.heap.size+1+1+1,2,none⟩=some (.int .u64 0):=R2.out.cell 2
 have g3:w2.cell? ⟨w.heap.size+1+1+1,3,none⟩=some (.int .u64 0):=R2.out.cell 3
 have gz0:=R2.out.frozen 0
 have gz1:=R2.out.frozen 1
 have gz2:=R2.out.frozen 2
 have gz3:=R2.out.frozen 3
 have gq:=R2.out.lt
 go_wp2
 rw[set4 R2.out rfl]
 exact bodyPost_ret (v:=U x) (rC1 (p:=6) (ty:=24) rfl (g:=w.heap.size+1+1+1) rfl (R2.out.set_same _) rfl Tryz.underlying24 (by kernel_rfl)) rfl ⟨rfl,bSR B2.out (by omega) _⟩
set_option maxRecDepth 100000 in
theorem raddmod0_raw(a b m s x:Nat)(c1:Hid (∀ w,Calls Tryz.prog 76 #[U a,U b] w fun e w'=>e=.returned (.tuple #[U s,.bool false])∧Below w.heap.size w w'))(c2:Hid (∀ w,Calls Tryz.prog 77 #[I4 0 0 0 0,U s,U m] w fun e w'=>e=.returned (U x)∧Below w.heap.size w w'))(w:World) :
  Calls Tryz.prog 34 #[U a,U b,U m] w fun e w'=>e=.returned (U x)∧Below w.heap.size w w':=by
 go_enter Tryz.func34,Tryz.ntmps34
 go_wp2_with fail
 refine (c1.out _).mono ?_
 rintro e w1 ⟨rfl,hb1⟩
 have Rm:Hid (HRw w1 (w.heap.size+1+1) #[B (l0 m),B (l1 m),B (l2 m),B (l3 m)]):=(HRw.old (HRw.last (by simp))).below hb1
 have Rr:Hid (HRw w1 (w.heap.size+1+1+1) #[.int .u64 0,.int .u64 0,.int .u64 0,.int .u64 0]):=(HRw.last (by simp)).below hb1
 have B1:Hid (Below w.heap.size w w1):=bCl (by (repeat (first | exact Below.refl _ _ | refine bAl ?_ _))) hb1
 have m0:w1.cell? ⟨w.heap.size+1+1,0,none⟩=some (B (l0 m)):=Rm.out.cell 0
 have m1:w1.cell? ⟨w.heap.size+1+1,1,none⟩=some (B (l1 m)):=Rm.out.cell 1
 have m2:w1.cell? ⟨w.heap.size+1+1,2,none⟩=some (B (l2 m)):=Rm.out.cell 2
 have m3:w1.cell? ⟨w.heap.size+1+1,3,none⟩=some (B (l3 m)):=Rm.out.cell 3
 have mz:=Rr.out.lt
 have mq0:w.heap.size<w1.heap.size:=by omega
 have mq1:w.heap.size+1<w1.heap.size:=by omega
 have mq2:w.heap.size+1+1<w1.heap.size:=by omega
 have mq3:w.heap.size+1+1+1<w1.heap.size:=by omega
 clear hb1
 go_wp2_with fail
 refine (c2.out _).mono ?_
 rintro e w2 ⟨rfl,hb2⟩
 have R2:Hid (HRw w2 (w.heap.size+1+1+1) #[.int .u64 0,.int .u64 0,.int .u64 0,.int .u64 0]):=(HRw.old (HRw.old Rr.out)).below hb2
 have B2:Hid (Below w.heap.size w w2):=bCl (bAl (bAl B1.out _) _) hb2
 clear hb2 Rr B1 m0 m1 m2 m3 mq0 mq1 mq2 mq3 mz Rm
 have g0:w2.cell? ⟨w.heap.size+1+1+1,0,none⟩=some (.int .u64 0):=R2.out.cell 0
 have g1:w2.cell? ⟨w.heap.size+1+1+1,1,none⟩=some (.int .u64 0):=R2.out.cell 1
 have g2:w2.cell? ⟨w.heap.size+1+1+1,2,none⟩=some (.int .u64 0):=R2.out.cell 2
 have g3:w2.cell? ⟨w.heap.size+1+1+1,3,none⟩=some (.int .u64 0):=R2.out.cell 3
 have gz0:=R2.out.frozen 0
 have gz1:=R2.out.frozen 1
 have gz2:=R2.out.frozen 2
 have gz3:=R2.out.frozen 3
 have gq:=R2.out.lt
 go_wp2
 rw[set4 R2.out rfl]
 exact bodyPost_ret (v:=U x) (rC1 (p:=6) (ty:=24) rfl (g:=w.heap.size+1+1+1) rfl (R2.out.set_same _) rfl Tryz.underlying24 (by kernel_rfl)) rfl ⟨rfl,bSR B2.out (by omega) _⟩
set_option maxRecDepth 100000 in
theorem addmod1_raw(a b m s x:Nat)(c1:Hid (∀ w,Calls Tryz.prog 124 #[U a,U b] w fun e w'=>e=.returned (.tuple #[U s,.bool true])∧Below w.heap.size w w'))(c0:Hid (∀ w,Calls Tryz.prog 66 #[.int .u64 1] w fun e w'=>e=.returned (I4 1 0 0 0)∧Below w.heap.size w w'))(c2:Hid (∀ w,Calls Tryz.prog 138 #[I4 1 0 0 0,U s,U m] w fun e w'=>e=.returned (U x)∧Below w.heap.size w w'))(w:World) :
  Calls Tryz.prog 143 #[U a,U b,U m] w fun e w'=>e=.returned (U x)∧Below w.heap.size w w':=by
 go_enter Tryz.func143,Tryz.ntmps143
 go_wp2_with fail
 refine (c1.out _).mono ?_
 rintro e w1 ⟨rfl,hb1⟩
 have Rm:Hid (HRw w1 (w.heap.size+1+1) #[B (l0 m),B (l1 m),B (l2 m),B (l3 m)]):=(HRw.old (HRw.last (by simp))).below hb1
 have Rr:Hid (HRw w1 (w.heap.size+1+1+1) #[.int .u64 0,.int .u64 0,.int .u64 0,.int .u64 0]):=(HRw.last (by simp)).below hb1
 have B1:Hid (Below w.heap.size w w1):=bCl (by (repeat (first | exact Below.refl _ _ | refine bAl ?_ _))) hb1
 have m0:w1.cell? ⟨w.heap.size+1+1,0,none⟩=some (B (l0 m)):=Rm.out.cell 0
 have m1:w1.cell? ⟨w.heap.size+1+1,1,none⟩=some (B (l1 m)):=Rm.out.cell 1
 have m2:w1.cell? ⟨w.heap.size+1+1,2,none⟩=some (B (l2 m)):=Rm.out.cell 2
 have m3:w1.cell? ⟨w.heap.size+1+1,3,none⟩=some (B (l3 m)):=Rm.out.cell 3
 have mz:=Rr.out.lt
 have mq0:w.heap.size<w1.heap.size:=by omega
 have mq1:w.heap.size+1<w1.heap.size:=by omega
 have mq2:w.heap.size+1+1<w1.heap.size:=by omega
 have mq3:w.heap.size+1+1+1<w1.heap.size:=by omega
 clear hb1
 go_wp2_with fail
 refine (c0.out _).mono ?_
 rintro e w2 ⟨rfl,hb2⟩
 have Rs:Hid (HRw w2 w1.heap.size #[B (l0 s),B (l1 s),B (l2 s),B (l3 s)]):=(HRw.old (HRw.last (by simp))).below hb2
 have Rh:Hid (HRw w2 (w1.heap.size+1) #[.int .u64 0,.int .u64 0,.int .u64 0,.int .u64 0]):=(HRw.last (by simp)).below hb2
 have Rm2:Hid (HRw w2 (w.heap.size+1+1) #[B (l0 m),B (l1 m),B (l2 m),B (l3 m)]):=(HRw.old (HRw.old Rm.out)).below hb2
 have Rr2:Hid (HRw w2 (w.heap.size+1+1+1) #[.int .u64 0,.int .u64 0,.int .u64 0,.int .u64 0]):=(HRw.old (HRw.old Rr.out)).below hb2
 have B2:Hid (Below w.heap.size w w2):=bCl (bAl (bAl B1.out _) _) hb2
 have hq:w.heap.size+1+1+1<w1.heap.size:=Rr.out.lt
 clear hb2 Rr B1 m0 m1 m2 m3 mq0 mq1 mq2 mq3 mz Rm
 have g0:w2.cell? ⟨w1.heap.size+1,0,none⟩=some (.int .u64 0):=Rh.out.cell 0
 have g1:w2.cell? ⟨w1.heap.size+1,1,none⟩=some (.int .u64 0):=Rh.out.cell 1
 have g2:w2.cell? ⟨w1.heap.size+1,2,none⟩=some (.int .u64 0):=Rh.out.cell 2
 have g3:w2.cell? ⟨w1.heap.size+1,3,none⟩=some (.int .u64 0):=Rh.out.cell 3
 have gz0:=Rh.out.frozen 0
 have gz1:=Rh.out.frozen 1
 have gz2:=Rh.out.frozen 2
 have gz3:=Rh.out.frozen 3
 have gq:=Rh.out.lt
 go_upto_region 5 with fail
 rw[set4 Rh.out rfl]
 have Qh:Hid (HRw (w2.setRow (w1.heap.size+1) #[.int .u64 1,.int .u64 0,.int .u64 0,.int .u64 0]) (w1.heap.size+1) #[.int .u64 1,.int .u64 0,.int .u64 0,.int .u64 0]):=Rh.out.set_same _
 have Qs:Hid (HRw (w2.setRow (w1.heap.size+1) #[.int .u64 1,.int .u64 0,.int .u64 0,.int .u64 0]) w1.heap.size #[B (l0 s),B (l1 s),B (l2 s),B (l3 s)]):=Rs.out.set_other _ (by omega)
 have Qm:Hid (HRw (w2.setRow (w1.heap.size+1) #[.int .u64 1,.int .u64 0,.int .u64 0,.int .u64 0]) (w.heap.size+1+1) #[B (l0 m),B (l1 m),B (l2 m),B (l3 m)]):=Rm2.out.set_other _ (by omega)
 have Qr:Hid (HRw (w2.setRow (w1.heap.size+1) #[.int .u64 1,.int .u64 0,.int .u64 0,.int .u64 0]) (w.heap.size+1+1+1) #[.int .u64 0,.int .u64 0,.int .u64 0,.int .u64 0]):=Rr2.out.set_other _ (by omega)
 have QB:Hid (Below w.heap.size w (w2.setRow (w1.heap.size+1) #[.int .u64 1,.int .u64 0,.int .u64 0,.int .u64 0])):=bSR B2.out (by omega) _
 clear Rh Rs Rm2 Rr2 B2 g0 g1 g2 g3 gz0 gz1 gz2 gz3 gq
 generalize w2.setRow (w1.heap.size+1) #[.int .u64 1,.int .u64 0,.int .u64 0,.int .u64 0]=w3 at *
 have h0:w3.cell? ⟨w1.heap.size+1,0,none⟩=some (.int .u64 1):=Qh.out.cell 0
 have h1:w3.cell? ⟨w1.heap.size+1,1,none⟩=some (.int .u64 0):=Qh.out.cell 1
 have h2:w3.cell? ⟨w1.heap.size+1,2,none⟩=some (.int .u64 0):=Qh.out.cell 2
 have h3:w3.cell? ⟨w1.heap.size+1,3,none⟩=some (.int .u64 0):=Qh.out.cell 3
 have s0:w3.cell? ⟨w1.heap.size,0,none⟩=some (B (l0 s)):=Qs.out.cell 0
 have s1:w3.cell? ⟨w1.heap.size,1,none⟩=some (B (l1 s)):=Qs.out.cell 1
 have s2:w3.cell? ⟨w1.heap.size,2,none⟩=some (B (l2 s)):=Qs.out.cell 2
 have s3:w3.cell? ⟨w1.heap.size,3,none⟩=some (B (l3 s)):=Qs.out.cell 3
 have m0:w3.cell? ⟨w.heap.size+1+1,0,none⟩=some (B (l0 m)):=Qm.out.cell 0
 have m1:w3.cell? ⟨w.heap.size+1+1,1,none⟩=some (B (l1 m)):=Qm.out.cell 1
 have m2:w3.cell? ⟨w.heap.size+1+1,2,none⟩=some (B (l2 m)):=Qm.out.cell 2
 have m3:w3.cell? ⟨w.heap.size+1+1,3,none⟩=some (B (l3 m)):=Qm.out.cell 3
 have mq1:=Qh.out.lt
 have mq2:=Qs.out.lt
 have mq3:=Qm.out.lt
 go_wp2_with fail
 refine (c2.out _).mono ?_
 rintro e w4 ⟨rfl,hb4⟩
 have R2:Hid (HRw w4 (w.heap.size+1+1+1) #[.int .u64 0,.int .u64 0,.int .u64 0,.int .u64 0]):=Qr.out.below hb4
 have B4:Hid (Below w.heap.size w w4):=bCl QB.out hb4
 clear hb4 Qh Qs Qm Qr QB h0 h1 h2 h3 s0 s1 s2 s3 m0 m1 m2 m3 mq1 mq2 mq3
 have g0:w4.cell? ⟨w.heap.size+1+1+1,0,none⟩=some (.int .u64 0):=R2.out.cell 0
 have g1:w4.cell? ⟨w.heap.size+1+1+1,1,none⟩=some (.int .u64 0):=R2.out.cell 1
 have g2:w4.cell? ⟨w.heap.size+1+1+1,2,none⟩=some (.int .u64 0):=R2.out.cell 2
 have g3:w4.cell? ⟨w.heap.size+1+1+1,3,none⟩=some (.int .u64 0):=R2.out.cell 3
 have gz0:=R2.out.frozen 0
 have gz1:=R2.out.frozen 1
 have gz2:=R2.out.frozen 2
 have gz3:=R2.out.frozen 3
 have gq:=R2.out.lt
 go_wp2
 rw[set4 R2.out rfl]
 exact bodyPost_ret (v:=U x) (rC1 (p:=6) (ty:=24) rfl (g:=w.heap.size+1+1+1) rfl (R2.out.set_same _) rfl Tryz.underlying24 (by kernel_rfl)) rfl ⟨rfl,bSR B4.out (by omega) _⟩
set_option maxRecDepth 100000 in
theorem raddmod1_raw(a b m s x:Nat)(c1:Hid (∀ w,Calls Tryz.prog 76 #[U a,U b] w fun e w'=>e=.returned (.tuple #[U s,.bool true])∧Below w.heap.size w w'))(c2:Hid (∀ w,Calls Tryz.prog 77 #[I4 1 0 0 0,U s,U m] w fun e w'=>e=.returned (U x)∧Below w.heap.size w w'))(w:World) :
  Calls Tryz.prog 34 #[U a,U b,U m] w fun e w'=>e=.returned (U x)∧Below w.heap.size w w':=by
 go_enter Tryz.func34,Tryz.ntmps34
 go_wp2_with fail
 refine (c1.out _).mono ?_
 rintro e w1 ⟨rfl,hb1⟩
 have Rm:Hid (HRw w1 (w.heap.size+1+1) #[B (l0 m),B (l1 m),B (l2 m),B (l3 m)]):=(HRw.old (HRw.last (by simp))).below hb1
 have Rr:Hid (HRw w1 (w.heap.size+1+1+1) #[.int .u64 0,.int .u64 0,.int .u64 0,.int .u64 0]):=(HRw.last (by simp)).below hb1
 have B1:Hid (Below w.heap.size w w1):=bCl (by (repeat (first | exact Below.refl _ _ | refine bAl ?_ _))) hb1
 have m0:w1.cell? ⟨w.heap.size+1+1,0,none⟩=some (B (l0 m)):=Rm.out.cell 0
 have m1:w1.cell? ⟨w.heap.size+1+1,1,none⟩=some (B (l1 m)):=Rm.out.cell 1
 have m2:w1.cell? ⟨w.heap.size+1+1,2,none⟩=some (B (l2 m)):=Rm.out.cell 2
 have m3:w1.cell? ⟨w.heap.size+1+1,3,none⟩=some (B (l3 m)):=Rm.out.cell 3
 have mz:=Rr.out.lt
 have mq0:w.heap.size<w1.heap.size:=by omega
 have mq1:w.heap.size+1<w1.heap.size:=by omega
 have mq2:w.heap.size+1+1<w1.heap.size:=by omega
 have mq3:w.heap.size+1+1+1<w1.heap.size:=by omega
 clear hb1
 go_wp2_with fail
 refine (c2.out _).mono ?_
 rintro e w2 ⟨rfl,hb2⟩
 have R2:Hid (HRw w2 (w.heap.size+1+1+1) #[.int .u64 0,.int .u64 0,.int .u64 0,.int .u64 0]):=(HRw.old (HRw.old Rr.out)).below hb2
 have B2:Hid (Below w.heap.size w w2):=bCl (bAl (bAl B1.out _) _) hb2
 clear hb2 Rr B1 m0 m1 m2 m3 mq0 mq1 mq2 mq3 mz Rm
 have g0:w2.cell? ⟨w.heap.size+1+1+1,0,none⟩=some (.int .u64 0):=R2.out.cell 0
 have g1:w2.cell? ⟨w.heap.size+1+1+1,1,none⟩=some (.int .u64 0):=R2.out.cell 1
 have g2:w2.cell? ⟨w.heap.size+1+1+1,2,none⟩=some (.int .u64 0):=R2.out.cell 2
 have g3:w2.cell? ⟨w.heap.size+1+1+1,3,none⟩=some (.int .u64 0):=R2.out.cell 3
 have gz0:=R2.out.frozen 0
 have gz1:=R2.out.frozen 1
 have gz2:=R2.out.frozen 2
 have gz3:=R2.out.frozen 3
 have gq:=R2.out.lt
 go_wp2
 rw[set4 R2.out rfl]
 exact bodyPost_ret (v:=U x) (rC1 (p:=6) (ty:=24) rfl (g:=w.heap.size+1+1+1) rfl (R2.out.set_same _) rfl Tryz.underlying24 (by kernel_rfl)) rfl ⟨rfl,bSR B2.out (by omega) _⟩
theorem mulmod_any(a b m:Nat)(ha:a<W)(hb:b<W)(hm:m<W)(w:World):Calls Tryz.prog 105 #[U a,U b,U m] w fun e w'=>e=.returned (U (rm (a*b) m))∧Below w.heap.size w w':=by
 have hh:a*b/W<W:=Nat.div_lt_of_lt_mul (Nat.mul_lt_mul'' ha hb)
 have hl:a*b%W<W:=Nat.mod_lt _ W_pos
 have e:dr (a*b/W) (a*b%W) m=rm (a*b) m:=by
  have hd:=Nat.div_add_mod (a*b) W
  unfold dr rm
  rw[Nat.mul_comm (a*b/W),hd]
 refine mulmod_raw a b m _ _ _ (wide_any a b ha hb) (fun w=>?_) w
 have h:=rest_any _ _ m hh hl hm w
 rw[e] at h
 exact h
theorem addmod_any(a b m:Nat)(ha:a<W)(hb:b<W)(hm:m<W)(w:World):Calls Tryz.prog 143 #[U a,U b,U m] w fun e w'=>e=.returned (U (rm (a+b) m))∧Below w.heap.size w w':=by
 rcases Nat.lt_or_ge (a+b) W with ho | ho
 ·have e1:addW a b=a+b:=Nat.mod_eq_of_lt ho
  have e2:ovW a b=false:=decide_eq_false (by omega)
  refine addmod0_raw a b m (a+b) _ (fun w=>?_) (fun w=>?_) w
  ·have h:=add_any a b ha hb w
   rw[e1,e2] at h
   exact h
  ·have h:=rest_any 0 (a+b) m W_pos ho hm w
   rw[U_zero] at h
   have e:dr 0 (a+b) m=rm (a+b) m:=by unfold dr rm;rw[Nat.zero_mul,Nat.zero_add]
   rw[e] at h
   exact h
 ·have e1:addW a b=a+b-W:=by unfold addW;rw[Nat.mod_eq_sub_mod ho,Nat.mod_eq_of_lt (by omega)]
  have e2:ovW a b=true:=decide_eq_true ho
  refine addmod1_raw a b m (a+b-W) _ (fun w=>?_) (fun w=>?_) (fun w=>?_) w
  ·have h:=add_any a b ha hb w
   rw[e1,e2] at h
   exact h
  ·have h:=of_any 1 (by decide) w
   rw[U_1] at h
   exact h
  ·have h:=rest_any 1 (a+b-W) m (by decide +kernel) (by omega) hm w
   rw[U_1] at h
   have e:dr 1 (a+b-W) m=rm (a+b) m:=by unfold dr rm;rw[Nat.one_mul,Nat.add_sub_cancel' ho]
   rw[e] at h
   exact h
theorem rmulmod_any(a b m:Nat)(ha:a<W)(hb:b<W)(hm:m<W)(w:World):Calls Tryz.prog 86 #[U a,U b,U m] w fun e w'=>e=.returned (U (rm (a*b) m))∧Below w.heap.size w w':=by
 have hh:a*b/W<W:=Nat.div_lt_of_lt_mul (Nat.mul_lt_mul'' ha hb)
 have hl:a*b%W<W:=Nat.mod_lt _ W_pos
 have e:dr (a*b/W) (a*b%W) m=rm (a*b) m:=by
  have hd:=Nat.div_add_mod (a*b) W
  unfold dr rm
  rw[Nat.mul_comm (a*b/W),hd]
 refine rmulmod_raw a b m _ _ _ (rwide_any a b ha hb) (fun w=>?_) w
 have h:=rrest_any _ _ m hh hl hm w
 rw[e] at h
 exact h
theorem raddmod_any(a b m:Nat)(ha:a<W)(hb:b<W)(hm:m<W)(w:World):Calls Tryz.prog 34 #[U a,U b,U m] w fun e w'=>e=.returned (U (rm (a+b) m))∧Below w.heap.size w w':=by
 rcases Nat.lt_or_ge (a+b) W with ho | ho
 ·have e1:addW a b=a+b:=Nat.mod_eq_of_lt ho
  have e2:ovW a b=false:=decide_eq_false (by omega)
  refine raddmod0_raw a b m (a+b) _ (fun w=>?_) (fun w=>?_) w
  ·have h:=radd_any a b ha hb w
   rw[e1,e2] at h
   exact h
  ·have h:=rrest_any 0 (a+b) m W_pos ho hm w
   rw[U_zero] at h
   have e:dr 0 (a+b) m=rm (a+b) m:=by unfold dr rm;rw[Nat.zero_mul,Nat.zero_add]
   rw[e] at h
   exact h
 ·have e1:addW a b=a+b-W:=by unfold addW;rw[Nat.mod_eq_sub_mod ho,Nat.mod_eq_of_lt (by omega)]
  have e2:ovW a b=true:=decide_eq_true ho
  refine raddmod1_raw a b m (a+b-W) _ (fun w=>?_) (fun w=>?_) w
  ·have h:=radd_any a b ha hb w
   rw[e1,e2] at h
   exact h
  ·have h:=rrest_any 1 (a+b-W) m (by decide +kernel) (by omega) hm w
   rw[U_1] at h
   have e:dr 1 (a+b-W) m=rm (a+b) m:=by unfold dr rm;rw[Nat.one_mul,Nat.add_sub_cancel' ho]
   rw[e] at h
   exact h
end
section
open Go.RowKit Go.Sort
theorem Frm.olds{ops:Array Oper}{vs:Nat→Value}{a a':Act}{lz:Array Bool}(h:Frm ops vs a lz a'){t i:Nat}(hw:wr ops t=some i)(hn:¬ lz.getD i false=true):a'.eval (.tmp t)=a.eval (.tmp t):=by
 show a'.tmps.getD t undef=a.tmps.getD t undef
 rw[Array.getD_eq_getD_getElem?,Array.getD_eq_getD_getElem?]
 by_cases ht:t<a.tmps.size
 ·rw[h.2.2 t ht,hw]
  simp only[hn,if_false,Bool.false_eq_true]
 ·rw[Array.getElem?_eq_none (by have:=h.2.1;omega),Array.getElem?_eq_none (by omega)]
theorem done_me{lz:Array Bool}{k n:Nat}(hs:lz.size=n)(hk:k<n):(lz.setIfInBounds k true).getD k false=true:=by
 have:k<lz.size:=by omega
 simp[Array.getD,this]
theorem results_c2t{P:Program}{fn:Func}{p q r:Tmp}{ty ty2:TypeId}(h:fn.results=#[.cell p ty,.cell q ty2,.tmp r]){tmps:Array Value}{w:World}{g g2:Nat}{c c2:Array Value}{n n2:Nat}{e e2:TypeId}{v:Value}(h1:tmps.getD p undef=.pointer (some ⟨g,0,none⟩))(h2:tmps.getD q undef=.pointer (some ⟨g2,0,none⟩))(h3:tmps.getD r undef=v)(r1:HRw w g c)(r2:HRw w g2 c2)(n1:c.size=n)(n2':c2.size=n2)(hu:P.underlying ty=some (.array n e))(hi:(P.info? ty).map (·.size)=some n)(hu2:P.underlying ty2=some (.array n2 e2))(hi2:(P.info? ty2).map (·.size)=some n2) :
  (results fn tmps).run P w=.ok (.tuple #[.agg c,.agg c2,v]) w:=by
 obtain ⟨t,r1⟩:=r1
 obtain ⟨t2,r2⟩:=r2
 have k1:=run_loadVar_row (P:=P) w g t ty c (0,0) _ r1 hu rfl (by rw[n1];exact hi)
 have k2:=run_loadVar_row (P:=P) w g2 t2 ty2 c2 (0,0) _ r2 hu2 rfl (by rw[n2'];exact hi2)
 have h1':tmps[p]?.getD undef=.pointer (some ⟨g,0,none⟩):=by rw[← h1];simp
 have h2':tmps[q]?.getD undef=.pointer (some ⟨g2,0,none⟩):=by rw[← h2];simp
 have h3':tmps[r]?.getD undef=v:=by rw[← h3];simp
 simp only[results,h]
 simp[Sem.run_bind,Result.andThen,h1',h2',h3',asAddr,k1,k2]
theorem results_c1t{P:Program}{fn:Func}{p r:Tmp}{ty:TypeId}(h:fn.results=#[.cell p ty,.tmp r]){tmps:Array Value}{w:World}{g:Nat}{c:Array Value}{n:Nat}{e:TypeId}{v:Value}(h1:tmps.getD p undef=.pointer (some ⟨g,0,none⟩))(h3:tmps.getD r undef=v)(r1:HRw w g c)(n1:c.size=n)(hu:P.underlying ty=some (.array n e))(hi:(P.info? ty).map (·.size)=some n) :
  (results fn tmps).run P w=.ok (.tuple #[.agg c,v]) w:=by
 obtain ⟨t,r1⟩:=r1
 have k1:=run_loadVar_row (P:=P) w g t ty c (0,0) _ r1 hu rfl (by rw[n1];exact hi)
 have h1':tmps[p]?.getD undef=.pointer (some ⟨g,0,none⟩):=by rw[← h1];simp
 have h3':tmps[r]?.getD undef=v:=by rw[← h3];simp
 simp only[results,h]
 simp[Result.andThen,h1',h3',asAddr,k1]
def rowN (w:World) (g:Nat):Nat:=
 mk (intOf ((w.cell? ⟨g,0,none⟩).getD undef)).toNat (intOf ((w.cell? ⟨g,1,none⟩).getD undef)).toNat (intOf ((w.cell? ⟨g,2,none⟩).getD undef)).toNat (intOf ((w.cell? ⟨g,3,none⟩).getD undef)).toNat
theorem rowN_of{w:World}{g n:Nat}(hn:n<W)(h:HRw w g #[B (l0 n),B (l1 n),B (l2 n),B (l3 n)]):rowN w g=n:=by
 have c0:w.cell? ⟨g,0,none⟩=some (B (l0 n)):=h.cell 0
 have c1:w.cell? ⟨g,1,none⟩=some (B (l1 n)):=h.cell 1
 have c2:w.cell? ⟨g,2,none⟩=some (B (l2 n)):=h.cell 2
 have c3:w.cell? ⟨g,3,none⟩=some (B (l3 n)):=h.cell 3
 unfold rowN
 rw[c0,c1,c2,c3]
 exact mk_parts n hn
end
end Go.Proofs.YtfhppenjbmmadaaGreatDoor
