import Derived.Test.YtfhppenjbmmadaaGreatDoorXmM14
namespace Go.Proofs.YtfhppenjbmmadaaGreatDoor
set_option linter.unusedVariables false
set_option maxHeartbeats 8000000
open Go.RowKit Go.Sort
attribute [local go_sem] run_eq4 run_eqU_same
structure CE2 (w:World) (N0:Nat) (a m:Nat) (lz:Array Bool) (vs:Nat→Value) (w':World):Prop where
 bw:Below w.heap.size w w'
 ms:N0≤w'.heap.size
 R0:HRw w' (w.heap.size) #[B (l0 a),B (l1 a),B (l2 a),B (l3 a)]
 R1:HRw w' (w.heap.size+1+1) #[B (l0 m),B (l1 m),B (l2 m),B (l3 m)]
 R2:HRw w' (w.heap.size+1+1+1) #[.int .u64 0,.int .u64 0,.int .u64 0,.int .u64 0]
 c0:lz.getD 0 false=true→vs 0=U a
 c1:lz.getD 1 false=true→vs 1=I4 1 0 0 0
 c2:lz.getD 2 false=true→∃ g c,vs 2=.pointer (some ⟨g,0,none⟩)∧N0≤g∧HRw w' g c∧c.size=4∧(lz.getD 4 false=true→c=#[B (l0 a),B (l1 a),B (l2 a),B (l3 a)])
 c3:lz.getD 3 false=true→∃ g c,vs 3=.pointer (some ⟨g,0,none⟩)∧N0≤g∧HRw w' g c∧c.size=4∧(lz.getD 5 false=true→c=#[.int .u64 1,.int .u64 0,.int .u64 0,.int .u64 0])
 c4:lz.getD 4 false=true→lz.getD 2 false=true
 c5:lz.getD 5 false=true→lz.getD 3 false=true
 ne2_3:lz.getD 2 false=true→lz.getD 3 false=true→vs 2≠vs 3
structure CE5 (w:World) (N0:Nat) (dv lf ts nx q r pq sm g7 g8 bq br:Nat) (lz:Array Bool) (vs:Nat→Value) (w':World):Prop where
 bw:Below w.heap.size w w'
 ms:N0≤w'.heap.size
 R0:HRw w' (w.heap.size+1+1+1) #[B (l0 ts),B (l1 ts),B (l2 ts),B (l3 ts)]
 R1:HRw w' (bq) #[B (l0 q),B (l1 q),B (l2 q),B (l3 q)]
 R2:HRw w' (g8) #[B (l0 nx),B (l1 nx),B (l2 nx),B (l3 nx)]
 R3:HRw w' (w.heap.size+1+1) #[B (l0 dv),B (l1 dv),B (l2 dv),B (l3 dv)]
 R4:HRw w' (g7) #[B (l0 lf),B (l1 lf),B (l2 lf),B (l3 lf)]
 R5:HRw w' (br) #[B (l0 r),B (l1 r),B (l2 r),B (l3 r)]
 c0:lz.getD 0 false=true→vs 0=U ts
 c1:lz.getD 1 false=true→vs 1=U q
 c2:lz.getD 2 false=true→vs 2=U nx
 c3:lz.getD 3 false=true→vs 3=U pq
 c4:lz.getD 4 false=true→vs 4=.tuple #[U sm,.bool false]
 c5:lz.getD 5 false=true→vs 5=.tuple #[U sm,.bool false]
 c6:lz.getD 6 false=true→vs 6=U sm
 c7:lz.getD 7 false=true→vs 7=.bool false
 c8:lz.getD 8 false=true→∃ g c,vs 8=.pointer (some ⟨g,0,none⟩)∧N0≤g∧HRw w' g c∧c.size=4∧(lz.getD 9 false=true→c=#[B (l0 sm),B (l1 sm),B (l2 sm),B (l3 sm)])
 c9:lz.getD 9 false=true→lz.getD 8 false=true
 c10:lz.getD 10 false=true→vs 10=.bool false
structure CE6 (w:World) (N0:Nat) (lf ts nx r sm g7 g8 br g11:Nat) (lz:Array Bool) (vs:Nat→Value) (w':World):Prop where
 bw:Below w.heap.size w w'
 ms:N0≤w'.heap.size
 R0:HRw w' (br) #[B (l0 r),B (l1 r),B (l2 r),B (l3 r)]
 R1:HRw w' (w.heap.size+1+1+1) #[B (l0 ts),B (l1 ts),B (l2 ts),B (l3 ts)]
 R2:HRw w' (g8) #[B (l0 nx),B (l1 nx),B (l2 nx),B (l3 nx)]
 R3:HRw w' (g11) #[B (l0 sm),B (l1 sm),B (l2 sm),B (l3 sm)]
 c0:lz.getD 0 false=true→vs 0=U lf
 c1:lz.getD 1 false=true→vs 1=U r
 c2:∃ c,HRw w' (w.heap.size+1+1) c∧c.size=4∧(lz.getD 2 false=true→c=#[B (l0 lf),B (l1 lf),B (l2 lf),B (l3 lf)])
 c3:∃ c,HRw w' (g7) c∧c.size=4∧(lz.getD 3 false=true→c=#[B (l0 r),B (l1 r),B (l2 r),B (l3 r)])∧(¬ lz.getD 3 false=true→c=#[B (l0 lf),B (l1 lf),B (l2 lf),B (l3 lf)])
 e3_0:lz.getD 3 false=true→lz.getD 0 false=true
structure CE7 (w:World) (N0:Nat) (lf nx r sm g7 g8 g11:Nat) (lz:Array Bool) (vs:Nat→Value) (w':World):Prop where
 bw:Below w.heap.size w w'
 ms:N0≤w'.heap.size
 R0:HRw w' (g11) #[B (l0 sm),B (l1 sm),B (l2 sm),B (l3 sm)]
 R1:HRw w' (w.heap.size+1+1) #[B (l0 lf),B (l1 lf),B (l2 lf),B (l3 lf)]
 R2:HRw w' (g7) #[B (l0 r),B (l1 r),B (l2 r),B (l3 r)]
 c0:lz.getD 0 false=true→vs 0=U nx
 c1:lz.getD 1 false=true→vs 1=U sm
 c2:∃ c,HRw w' (w.heap.size+1+1+1) c∧c.size=4∧(lz.getD 2 false=true→c=#[B (l0 nx),B (l1 nx),B (l2 nx),B (l3 nx)])
 c3:∃ c,HRw w' (g8) c∧c.size=4∧(lz.getD 3 false=true→c=#[B (l0 sm),B (l1 sm),B (l2 sm),B (l3 sm)])∧(¬ lz.getD 3 false=true→c=#[B (l0 nx),B (l1 nx),B (l2 nx),B (l3 nx)])
 e3_0:lz.getD 3 false=true→lz.getD 0 false=true
structure CE9 (w:World) (N0:Nat) (dv ts:Nat) (un:Bool) (lz:Array Bool) (vs:Nat→Value) (w':World):Prop where
 bw:Below w.heap.size w w'
 ms:N0≤w'.heap.size
 c0:lz.getD 0 false=true→vs 0=U dv
 c1:lz.getD 1 false=true→vs 1=U ts
 c2:lz.getD 2 false=true→vs 2=.bool un
 c3:∃ c,HRw w' (w.heap.size+1+1) c∧c.size=4∧(lz.getD 3 false=true→c=#[B (l0 dv),B (l1 dv),B (l2 dv),B (l3 dv)])∧(¬ lz.getD 3 false=true→c=#[B (l0 dv),B (l1 dv),B (l2 dv),B (l3 dv)])
 c4:∃ c,HRw w' (w.heap.size+1+1+1) c∧c.size=4∧(lz.getD 4 false=true→c=#[B (l0 ts),B (l1 ts),B (l2 ts),B (l3 ts)])∧(¬ lz.getD 4 false=true→c=#[B (l0 ts),B (l1 ts),B (l2 ts),B (l3 ts)])
 c5:lz.getD 5 false=true→vs 5=.bool un
 e3_0:lz.getD 3 false=true→lz.getD 0 false=true
 e4_1:lz.getD 4 false=true→lz.getD 1 false=true
 e5_2:lz.getD 5 false=true→lz.getD 2 false=true
structure EU (w w':World) (g7 g8 dv lf ts nx:Nat):Prop where
 rd:HRw w' (w.heap.size+1+1) #[B (l0 dv),B (l1 dv),B (l2 dv),B (l3 dv)]
 rt:HRw w' (w.heap.size+1+1+1) #[B (l0 ts),B (l1 ts),B (l2 ts),B (l3 ts)]
 rl:HRw w' g7 #[B (l0 lf),B (l1 lf),B (l2 lf),B (l3 lf)]
 rx:HRw w' g8 #[B (l0 nx),B (l1 nx),B (l2 nx),B (l3 nx)]
 bw:Below w.heap.size w w'
 h7:w.heap.size+1+1+1<g7
 h8:w.heap.size+1+1+1<g8
 h78:g7≠g8
theorem EU.call{w w' w'':World}{g7 g8 dv lf ts nx:Nat}(h:EU w w' g7 g8 dv lf ts nx)(hb:Below w'.heap.size w' w''):EU w w'' g7 g8 dv lf ts nx:=
 ⟨h.rd.below hb,h.rt.below hb,h.rl.below hb,h.rx.below hb,h.bw.trans (hb.mono h.bw.size),h.h7,h.h8,h.h78⟩
theorem EU.alloc{w w':World}{g7 g8 dv lf ts nx:Nat}(h:EU w w' g7 g8 dv lf ts nx)(o:Obj):EU w (w'.alloc o) g7 g8 dv lf ts nx:=
 ⟨h.rd.old,h.rt.old,h.rl.old,h.rx.old,bAl h.bw _,h.h7,h.h8,h.h78⟩
set_option maxRecDepth 100000 in
theorem euclid_raw(a m:Nat)(ha:a<W)(hm:m<W)(h0:0<m)(co:Hid (∀ w,Calls Tryz.prog 66 #[.int .u64 1] w fun e w'=>e=.returned (I4 1 0 0 0)∧Below w.heap.size w w'))(cd:Hid (∀ x y,x<W→y<W→0<y→∀ w,Calls Tryz.prog 148 #[U x,U y] w fun e w'=>e=.returned (.tuple #[U (x/y),U (x%y)])∧Below w.heap.size w w'))(cm:Hid (∀ x y,x<W→y<W→x*y<W→∀ w,Calls Tryz.prog 149 #[U x,U y] w fun e w'=>e=.returned (U (x*y))∧Below w.heap.size w w'))(ca:Hid (∀ x y,x<W→y<W→x+y<W→∀ w,Calls Tryz.prog 124 #[U x,U y] w fun e w'=>e=.returned (.tuple #[U (x+y),.bool false])∧Below w.heap.size w w'))(cz:Hid (∀ x,x<W→∀ w,(Op.equalIn 10000 24 (U x) (I4 0 0 0 0)).run Tryz.prog w=.ok (decide (x=0)) w))(w:World) :
  Calls Tryz.prog 129 #[U a,U m] w fun e w'=>(∃ dv ts nx un,EI a m dv 0 ts nx un∧dv<W∧e=.returned (.tuple #[U dv,U ts,.bool un]))∧Below w.heap.size w w':=by
 have HM:Hid (a<W∧m<W∧0<m):=⟨ha,hm,h0⟩
 clear ha hm h0
 go_enter Tryz.func129,Tryz.ntmps129
 go_wp2
 refine name_world _ ?_
 intro wF hF0
 have r0:Hid (HRw wF (w.heap.size) #[B (l0 a),B (l1 a),B (l2 a),B (l3 a)]):=by rw[hF0];exact (HRw.old (HRw.old (HRw.old (HRw.last rfl))))
 have r1:Hid (HRw wF (w.heap.size+1+1) #[B (l0 m),B (l1 m),B (l2 m),B (l3 m)]):=by rw[hF0];exact (HRw.old (HRw.last (by simp)))
 have r2:Hid (HRw wF (w.heap.size+1+1+1) #[.int .u64 0,.int .u64 0,.int .u64 0,.int .u64 0]):=by rw[hF0];exact (HRw.last (by simp))
 have r3:Hid (Below w.heap.size w wF):=by rw[hF0];exact (by (repeat (first | exact Below.refl _ _ | refine bAl ?_ _)))
 obtain ⟨N0,hN0⟩:∃ n,n=wF.heap.size:=⟨_,rfl⟩
 have hN:w.heap.size+1+1+1<N0:=by rw[hN0];exact r2.out.lt
 clear hF0
 refine wRv2 (by kernel_rfl) (by kernel_rfl) (by kernel_rfl) (CE2 w N0 a m) ?_ ?_ ?_
 ·refine ⟨r3.out.drew,by rw[hN0];exact Nat.le_refl _,r0.out,r1.out,r2.out,?_,?_,?_,?_,?_,?_,?_⟩<;>(intro h;simp[Array.getD] at h)
 ·intro lz vs a' w' i o' hs ho hi hF cc
  have hin:i<6:=by have:=(Array.getElem?_eq_some_iff.1 ho).1;simpa using this
  have hcase:i=0∨i=1∨i=2∨i=3∨i=4∨i=5:=by omega
  rcases hcase with rfl | rfl | rfl | rfl | rfl | rfl
  ·simp at ho
   subst ho
   have T:=dT lz 0
   have S:=dS lz 0
   exact wp_rowF 24 (.tmp 2) rfl (w.heap.size) ((hF.old (by kernel_rfl)).trans rfl) cc.R0 rfl Tryz.underlying24 (by kernel_rfl) ⟨_,rfl,⟨cc.bw,cc.ms,cc.R0,cc.R1,cc.R2,fun _=>rfl,fun h=>cc.c1 (T 1 (by decide) h),fun h=>by obtain ⟨g',c',e',k1,k2,k3,k4⟩:=cc.c2 (T 2 (by decide) h);exact ⟨g',c',e',k1,k2,k3,fun h6=>k4 (T 4 (by decide) h6)⟩,fun h=>by obtain ⟨g',c',e',k1,k2,k3,k4⟩:=cc.c3 (T 3 (by decide) h);exact ⟨g',c',e',k1,k2,k3,fun h6=>k4 (T 5 (by decide) h6)⟩,fun h=>S 2 (cc.c4 (T 4 (by decide) h)),fun h=>S 3 (cc.c5 (T 5 (by decide) h)),fun h h'=>cc.ne2_3 (T 2 (by decide) h) (T 3 (by decide) h')⟩⟩
  ·simp at ho
   subst ho
   have T:=dT lz 1
   have S:=dS lz 1
   refine wp_callF (f:=66) (args:=#[.int .u64 1]) (v:=I4 1 0 0 0) (by simp[execOp_call_go,go_sem]) (co.out w') ?_
   intro w'' hb''
   exact ⟨_,rfl,⟨cc.bw.trans (hb''.mono cc.bw.size),Nat.le_trans cc.ms hb''.size,cc.R0.below hb'',cc.R1.below hb'',cc.R2.below hb'',fun h=>cc.c0 (T 0 (by decide) h),fun _=>rfl,fun h=>by obtain ⟨g',c',e',k1,k2,k3,k4⟩:=cc.c2 (T 2 (by decide) h);exact ⟨g',c',e',k1,k2.below hb'',k3,fun h6=>k4 (T 4 (by decide) h6)⟩,fun h=>by obtain ⟨g',c',e',k1,k2,k3,k4⟩:=cc.c3 (T 3 (by decide) h);exact ⟨g',c',e',k1,k2.below hb'',k3,fun h6=>k4 (T 5 (by decide) h6)⟩,fun h=>S 2 (cc.c4 (T 4 (by decide) h)),fun h=>S 3 (cc.c5 (T 5 (by decide) h)),fun h h'=>cc.ne2_3 (T 2 (by decide) h) (T 3 (by decide) h')⟩⟩
  ·simp at ho
   subst ho
   have T:=dT lz 2
   have S:=dS lz 2
   have hun:¬ lz.getD 2 false=true:=fun h=>undone hi hs h
   exact wVF (v:=.pointer (some ⟨w'.heap.size,0,none⟩)) (w1:=w'.alloc (.cells #[.int .u64 0,.int .u64 0,.int .u64 0,.int .u64 0] 24)) (by simp[execOp,go_sem]) ⟨_,rfl,⟨bAl cc.bw _,by have:=cc.ms;simp;omega,cc.R0.old,cc.R1.old,cc.R2.old,fun h=>cc.c0 (T 0 (by decide) h),fun h=>cc.c1 (T 1 (by decide) h),fun _=>⟨w'.heap.size,#[.int .u64 0,.int .u64 0,.int .u64 0,.int .u64 0],rfl,cc.ms,HRw.last rfl,rfl,fun h6=>absurd (cc.c4 (T 4 (by decide) h6)) hun⟩,fun h=>by obtain ⟨g',c',e',k1,k2,k3,k4⟩:=cc.c3 (T 3 (by decide) h);exact ⟨g',c',e',k1,k2.old,k3,fun h6=>k4 (T 5 (by decide) h6)⟩,fun h=>S 2 (cc.c4 (T 4 (by decide) h)),fun h=>S 3 (cc.c5 (T 5 (by decide) h)),fun _ h=>by obtain ⟨g',c',e',k1,k2,k3,k4⟩:=cc.c3 (T 3 (by decide) h);have:=k2.lt;show Value.pointer (some ⟨w'.heap.size,0,none⟩)≠vs 3;rw[e'];intro q;simp at q;try omega⟩⟩
  ·simp at ho
   subst ho
   have T:=dT lz 3
   have S:=dS lz 3
   have hun:¬ lz.getD 3 false=true:=fun h=>undone hi hs h
   exact wVF (v:=.pointer (some ⟨w'.heap.size,0,none⟩)) (w1:=w'.alloc (.cells #[.int .u64 0,.int .u64 0,.int .u64 0,.int .u64 0] 24)) (by simp[execOp,go_sem]) ⟨_,rfl,⟨bAl cc.bw _,by have:=cc.ms;simp;omega,cc.R0.old,cc.R1.old,cc.R2.old,fun h=>cc.c0 (T 0 (by decide) h),fun h=>cc.c1 (T 1 (by decide) h),fun h=>by obtain ⟨g',c',e',k1,k2,k3,k4⟩:=cc.c2 (T 2 (by decide) h);exact ⟨g',c',e',k1,k2.old,k3,fun h6=>k4 (T 4 (by decide) h6)⟩,fun _=>⟨w'.heap.size,#[.int .u64 0,.int .u64 0,.int .u64 0,.int .u64 0],rfl,cc.ms,HRw.last rfl,rfl,fun h6=>absurd (cc.c5 (T 5 (by decide) h6)) hun⟩,fun h=>S 2 (cc.c4 (T 4 (by decide) h)),fun h=>S 3 (cc.c5 (T 5 (by decide) h)),fun h _=>by obtain ⟨g',c',e',k1,k2,k3,k4⟩:=cc.c2 (T 2 (by decide) h);have:=k2.lt;show vs 2≠Value.pointer (some ⟨w'.heap.size,0,none⟩);rw[e'];intro q;simp at q;try omega⟩⟩
  ·simp at ho
   subst ho
   have T:=dT lz 4
   have S:=dS lz 4
   have d4:=(wDn (i:=4) (j:=2) (by kernel_rfl) hi)
   obtain ⟨g,c,e,h1,h2,h3,h4⟩:=cc.c2 d4
   have hx:=(hF.new (t:=7) (i:=2) (by kernel_rfl) (by simp) d4).trans e
   have hv:=((hF.new (t:=14) (i:=0) (by kernel_rfl) (by simp) (wDn (i:=4) (j:=0) (by kernel_rfl) hi)).trans (cc.c0 (wDn (i:=4) (j:=0) (by kernel_rfl) hi)))
   exact wp_rowS 24 (.tmp 7) (.tmp 14) rfl g (c':=#[B (l0 a),B (l1 a),B (l2 a),B (l3 a)]) hx hv h2 h3 rfl (by simp[Value.oneCell']) (by kernel_rfl) ⟨_,rfl,⟨bSR cc.bw (by omega) _,by rw[sSR];exact cc.ms,cc.R0.set_other _ (by omega),cc.R1.set_other _ (by omega),cc.R2.set_other _ (by omega),fun h=>cc.c0 (T 0 (by decide) h),fun h=>cc.c1 (T 1 (by decide) h),fun h=>⟨g,_,e,h1,h2.set_same _,rfl,fun _=>rfl⟩,fun h=>by obtain ⟨g',c',e',k1,k2,k3,k4⟩:=cc.c3 (T 3 (by decide) h);exact ⟨g',c',e',k1,k2.set_other _ (by rintro rfl;exact cc.ne2_3 d4 (T 3 (by decide) h) (by rw[e,e'])),k3,fun h6=>k4 (T 5 (by decide) h6)⟩,fun _=>S 2 d4,fun h=>S 3 (cc.c5 (T 5 (by decide) h)),fun h h'=>cc.ne2_3 (T 2 (by decide) h) (T 3 (by decide) h')⟩⟩
  ·simp at ho
   subst ho
   have T:=dT lz 5
   have S:=dS lz 5
   have d4:=(wDn (i:=5) (j:=3) (by kernel_rfl) hi)
   obtain ⟨g,c,e,h1,h2,h3,h4⟩:=cc.c3 d4
   have hx:=(hF.new (t:=8) (i:=3) (by kernel_rfl) (by simp) d4).trans e
   have hv:=((hF.new (t:=15) (i:=1) (by kernel_rfl) (by simp) (wDn (i:=5) (j:=1) (by kernel_rfl) hi)).trans (cc.c1 (wDn (i:=5) (j:=1) (by kernel_rfl) hi)))
   exact wp_rowS 24 (.tmp 8) (.tmp 15) rfl g (c':=#[.int .u64 1,.int .u64 0,.int .u64 0,.int .u64 0]) hx hv h2 h3 rfl (by simp[Value.oneCell']) (by kernel_rfl) ⟨_,rfl,⟨bSR cc.bw (by omega) _,by rw[sSR];exact cc.ms,cc.R0.set_other _ (by omega),cc.R1.set_other _ (by omega),cc.R2.set_other _ (by omega),fun h=>cc.c0 (T 0 (by decide) h),fun h=>cc.c1 (T 1 (by decide) h),fun h=>by obtain ⟨g',c',e',k1,k2,k3,k4⟩:=cc.c2 (T 2 (by decide) h);exact ⟨g',c',e',k1,k2.set_other _ (by rintro rfl;exact cc.ne2_3 (T 2 (by decide) h) d4 (by rw[e,e'])),k3,fun h6=>k4 (T 4 (by decide) h6)⟩,fun h=>⟨g,_,e,h1,h2.set_same _,rfl,fun _=>rfl⟩,fun h=>S 2 (cc.c4 (T 4 (by decide) h)),fun _=>S 3 d4,fun h h'=>cc.ne2_3 (T 2 (by decide) h) (T 3 (by decide) h')⟩⟩
 ·intro lz vs a' w' hd hF cc
  have e:a'=({ tmps:=#[U a,U m,.pointer (some ⟨w.heap.size,0,none⟩),.pointer (some ⟨w.heap.size+1,0,none⟩),.pointer (some ⟨w.heap.size+1+1,0,none⟩),.pointer (some ⟨w.heap.size+1+1+1,0,none⟩),.bool true,vs 2,vs 3,undef,undef,undef,undef,.agg #[B (l0 m),B (l1 m),B (l2 m),B (l3 m)],vs 0,vs 1,undef,undef,undef,undef,undef,undef,undef,undef,undef,undef,undef,undef,undef,undef,undef,undef,undef,undef,undef,undef,undef,undef,undef,undef,undef,undef],defers:=[] }:Act):=(hF.all hd).trans (by kernel_rfl)
  subst e
  obtain ⟨g7,c7,e7,a1,a2,a3,a4⟩:=cc.c2 (hd 2 (by simp))
  obtain ⟨g8,c8,e8,b1,b2,b3,b4⟩:=cc.c3 (hd 3 (by simp))
  have hne:g7≠g8:=by
   rintro rfl
   exact cc.ne2_3 (hd 2 (by simp)) (hd 3 (by simp)) (by rw[e7,e8])
  have F0:Hid (EU w w' g7 g8 m a 0 1):=by
   have z0:#[B (l0 0),B (l1 0),B (l2 0),B (l3 0)]=(#[.int .u64 0,.int .u64 0,.int .u64 0,.int .u64 0]:Array Value):=Value.agg.inj U_zero
   have z1:#[B (l0 1),B (l1 1),B (l2 1),B (l3 1)]=(#[.int .u64 1,.int .u64 0,.int .u64 0,.int .u64 0]:Array Value):=Value.agg.inj U_1
   refine ⟨cc.R1,?_,a4 (hd 4 (by simp)) ▸ a2,?_,cc.bw,by omega,by omega,hne⟩
   ·rw[z0];exact cc.R2
   ·rw[z1];exact b4 (hd 5 (by simp)) ▸ b2
  rw[e7,e8]
  generalize vs 0=p14
  generalize vs 1=p15
  clear cc hd hF e7 e8 a1 a2 a3 a4 b1 b2 b3 b4 r0 r1 r2 r3 hne hN hN0
  go_wp2
  go_loopw [6] (fun s w1=>∃ (dv lf ts nx:Nat) (un:Bool),s=.bool un∧EU w w1 g7 g8 dv lf ts nx∧(dv<W∧lf<W)∧EI a m dv lf ts nx un) (fun _ w1=>rowN w1 g7)
  case atStart=>exact ⟨m,a,0,1,true,rfl,F0.out,⟨HM.out.2.1,HM.out.1⟩,EI.start HM.out.2.2⟩
  case round=>
   obtain ⟨dv,lf,ts,nx,un,rfl,hS,hB,hI⟩:=hrel
   clear F0
   have KS:Hid _:=hS
   have KB:Hid _:=hB
   have KI:Hid _:=hI
   clear hS hB hI
   have hz:=cz.out lf KB.out.2
   have f0:wr.cell? ⟨g7,0,none⟩=some (B (l0 lf)):=KS.out.rl.cell 0
   have f1:wr.cell? ⟨g7,1,none⟩=some (B (l1 lf)):=KS.out.rl.cell 1
   have f2:wr.cell? ⟨g7,2,none⟩=some (B (l2 lf)):=KS.out.rl.cell 2
   have f3:wr.cell? ⟨g7,3,none⟩=some (B (l3 lf)):=KS.out.rl.cell 3
   by_cases hl:lf=0
   ·rw[decide_eq_true hl] at hz
    subst hl
    go_wp2
    clear hz f0 f1 f2 f3
    refine wRv2 (by kernel_rfl) (by kernel_rfl) (by kernel_rfl) (CE9 w 0 dv ts un) ?_ ?_ ?_
    ·refine ⟨KS.out.bw.drew,Nat.zero_le _,?_,?_,?_,⟨_,KS.out.rd,rfl,?_,fun _=>rfl⟩,⟨_,KS.out.rt,rfl,?_,fun _=>rfl⟩,?_,?_,?_,?_⟩<;>(intro h;simp[Array.getD] at h)
    ·intro lz vs a' w' i o' hs ho hi hF cc
     have hin:i<6:=by have:=(Array.getElem?_eq_some_iff.1 ho).1;simpa using this
     have hcase:i=0∨i=1∨i=2∨i=3∨i=4∨i=5:=by omega
     rcases hcase with rfl | rfl | rfl | rfl | rfl | rfl
     ·simp at ho
      subst ho
      have T:=dT lz 0
      have S:=dS lz 0
      have hun:¬ lz.getD 0 false=true:=fun h=>undone hi hs h
      obtain ⟨c,h2,h3,h4,h5⟩:=cc.c3
      have hc:=h5 (fun h=>hun (cc.e3_0 h))
      subst hc
      exact wp_rowF 24 (.tmp 4) rfl (w.heap.size+1+1) ((hF.old (by kernel_rfl)).trans rfl) h2 h3 Tryz.underlying24 (by kernel_rfl) ⟨_,rfl,⟨cc.bw,cc.ms,fun _=>rfl,fun h=>cc.c1 (T 1 (by decide) h),fun h=>cc.c2 (T 2 (by decide) h),by obtain ⟨c',k2,k3,k4,k5⟩:=cc.c3;exact ⟨c',k2,k3,fun h6=>k4 (T 3 (by decide) h6),fun h6=>k5 (fun h7=>h6 (S 3 h7))⟩,by obtain ⟨c',k2,k3,k4,k5⟩:=cc.c4;exact ⟨c',k2,k3,fun h6=>k4 (T 4 (by decide) h6),fun h6=>k5 (fun h7=>h6 (S 4 h7))⟩,fun h=>cc.c5 (T 5 (by decide) h),fun h=>S 0 (cc.e3_0 (T 3 (by decide) h)),fun h=>S 1 (cc.e4_1 (T 4 (by decide) h)),fun h=>S 2 (cc.e5_2 (T 5 (by decide) h))⟩⟩
     ·simp at ho
      subst ho
      have T:=dT lz 1
      have S:=dS lz 1
      have hun:¬ lz.getD 1 false=true:=fun h=>undone hi hs h
      obtain ⟨c,h2,h3,h4,h5⟩:=cc.c4
      have hc:=h5 (fun h=>hun (cc.e4_1 h))
      subst hc
      exact wp_rowF 24 (.tmp 5) rfl (w.heap.size+1+1+1) ((hF.old (by kernel_rfl)).trans rfl) h2 h3 Tryz.underlying24 (by kernel_rfl) ⟨_,rfl,⟨cc.bw,cc.ms,fun h=>cc.c0 (T 0 (by decide) h),fun _=>rfl,fun h=>cc.c2 (T 2 (by decide) h),by obtain ⟨c',k2,k3,k4,k5⟩:=cc.c3;exact ⟨c',k2,k3,fun h6=>k4 (T 3 (by decide) h6),fun h6=>k5 (fun h7=>h6 (S 3 h7))⟩,by obtain ⟨c',k2,k3,k4,k5⟩:=cc.c4;exact ⟨c',k2,k3,fun h6=>k4 (T 4 (by decide) h6),fun h6=>k5 (fun h7=>h6 (S 4 h7))⟩,fun h=>cc.c5 (T 5 (by decide) h),fun h=>S 0 (cc.e3_0 (T 3 (by decide) h)),fun h=>S 1 (cc.e4_1 (T 4 (by decide) h)),fun h=>S 2 (cc.e5_2 (T 5 (by decide) h))⟩⟩
     ·simp at ho
      subst ho
      have T:=dT lz 2
      have S:=dS lz 2
      have hun:¬ lz.getD 2 false=true:=fun h=>undone hi hs h
      have hv:=(hF.olds (t:=6) (i:=5) (by kernel_rfl) (fun h=>hun (cc.e5_2 h))).trans rfl
      exact wVF (v:=.bool un) (w1:=w') (by simp[execOp,go_sem,ev hv]) ⟨_,rfl,⟨cc.bw,cc.ms,fun h=>cc.c0 (T 0 (by decide) h),fun h=>cc.c1 (T 1 (by decide) h),fun _=>rfl,by obtain ⟨c',k2,k3,k4,k5⟩:=cc.c3;exact ⟨c',k2,k3,fun h6=>k4 (T 3 (by decide) h6),fun h6=>k5 (fun h7=>h6 (S 3 h7))⟩,by obtain ⟨c',k2,k3,k4,k5⟩:=cc.c4;exact ⟨c',k2,k3,fun h6=>k4 (T 4 (by decide) h6),fun h6=>k5 (fun h7=>h6 (S 4 h7))⟩,fun h=>cc.c5 (T 5 (by decide) h),fun h=>S 0 (cc.e3_0 (T 3 (by decide) h)),fun h=>S 1 (cc.e4_1 (T 4 (by decide) h)),fun h=>S 2 (cc.e5_2 (T 5 (by decide) h))⟩⟩
     ·simp at ho
      subst ho
      have T:=dT lz 3
      have S:=dS lz 3
      have hv:=((hF.new (t:=39) (i:=0) (by kernel_rfl) (by simp) (wDn (i:=3) (j:=0) (by kernel_rfl) hi)).trans (cc.c0 (wDn (i:=3) (j:=0) (by kernel_rfl) hi)))
      obtain ⟨c,h2,h3,h4,h5⟩:=cc.c3
      exact wp_rowS 24 (.tmp 4) (.tmp 39) rfl (w.heap.size+1+1) (c':=#[B (l0 dv),B (l1 dv),B (l2 dv),B (l3 dv)]) ((hF.old (by kernel_rfl)).trans rfl) hv h2 h3 rfl (by simp[Value.oneCell']) (by kernel_rfl) ⟨_,rfl,⟨bSR cc.bw (by omega) _,by rw[sSR];exact cc.ms,fun h=>cc.c0 (T 0 (by decide) h),fun h=>cc.c1 (T 1 (by decide) h),fun h=>cc.c2 (T 2 (by decide) h),⟨_,h2.set_same _,rfl,fun _=>rfl,fun h6=>absurd (done_me hs (by simp)) h6⟩,by obtain ⟨c',k2,k3,k4,k5⟩:=cc.c4;exact ⟨c',k2.set_other _ (by omega),k3,fun h6=>k4 (T 4 (by decide) h6),fun h6=>k5 (fun h7=>h6 (S 4 h7))⟩,fun h=>cc.c5 (T 5 (by decide) h),fun _=>S 0 (wDn (i:=3) (j:=0) (by kernel_rfl) hi),fun h=>S 1 (cc.e4_1 (T 4 (by decide) h)),fun h=>S 2 (cc.e5_2 (T 5 (by decide) h))⟩⟩
     ·simp at ho
      subst ho
      have T:=dT lz 4
      have S:=dS lz 4
      have hv:=((hF.new (t:=40) (i:=1) (by kernel_rfl) (by simp) (wDn (i:=4) (j:=1) (by kernel_rfl) hi)).trans (cc.c1 (wDn (i:=4) (j:=1) (by kernel_rfl) hi)))
      obtain ⟨c,h2,h3,h4,h5⟩:=cc.c4
      exact wp_rowS 24 (.tmp 5) (.tmp 40) rfl (w.heap.size+1+1+1) (c':=#[B (l0 ts),B (l1 ts),B (l2 ts),B (l3 ts)]) ((hF.old (by kernel_rfl)).trans rfl) hv h2 h3 rfl (by simp[Value.oneCell']) (by kernel_rfl) ⟨_,rfl,⟨bSR cc.bw (by omega) _,by rw[sSR];exact cc.ms,fun h=>cc.c0 (T 0 (by decide) h),fun h=>cc.c1 (T 1 (by decide) h),fun h=>cc.c2 (T 2 (by decide) h),by obtain ⟨c',k2,k3,k4,k5⟩:=cc.c3;exact ⟨c',k2.set_other _ (by omega),k3,fun h6=>k4 (T 3 (by decide) h6),fun h6=>k5 (fun h7=>h6 (S 3 h7))⟩,⟨_,h2.set_same _,rfl,fun _=>rfl,fun h6=>absurd (done_me hs (by simp)) h6⟩,fun h=>cc.c5 (T 5 (by decide) h),fun h=>S 0 (cc.e3_0 (T 3 (by decide) h)),fun _=>S 1 (wDn (i:=4) (j:=1) (by kernel_rfl) hi),fun h=>S 2 (cc.e5_2 (T 5 (by decide) h))⟩⟩
     ·simp at ho
      subst ho
      have T:=dT lz 5
      have S:=dS lz 5
      have hv:=((hF.new (t:=41) (i:=2) (by kernel_rfl) (by simp) (wDn (i:=5) (j:=2) (by kernel_rfl) hi)).trans (cc.c2 (wDn (i:=5) (j:=2) (by kernel_rfl) hi)))
      exact wVF (v:=.bool un) (w1:=w') (by simp[execOp,go_sem,ev hv]) ⟨_,rfl,⟨cc.bw,cc.ms,fun h=>cc.c0 (T 0 (by decide) h),fun h=>cc.c1 (T 1 (by decide) h),fun h=>cc.c2 (T 2 (by decide) h),by obtain ⟨c',k2,k3,k4,k5⟩:=cc.c3;exact ⟨c',k2,k3,fun h6=>k4 (T 3 (by decide) h6),fun h6=>k5 (fun h7=>h6 (S 3 h7))⟩,by obtain ⟨c',k2,k3,k4,k5⟩:=cc.c4;exact ⟨c',k2,k3,fun h6=>k4 (T 4 (by decide) h6),fun h6=>k5 (fun h7=>h6 (S 4 h7))⟩,fun _=>rfl,fun h=>S 0 (cc.e3_0 (T 3 (by decide) h)),fun h=>S 1 (cc.e4_1 (T 4 (by decide) h)),fun _=>S 2 (wDn (i:=5) (j:=2) (by kernel_rfl) hi)⟩⟩
    ·intro lz vs a' w' hd hF cc
     obtain ⟨c,h2,h3,h4,h5⟩:=cc.c3
     obtain ⟨c',k2,k3,k4,k5⟩:=cc.c4
     have hx4:a'.eval (.tmp 4)=.pointer (some ⟨w.heap.size+1+1,0,none⟩):=(hF.old (by kernel_rfl)).trans rfl
     have hx5:a'.eval (.tmp 5)=.pointer (some ⟨w.heap.size+1+1+1,0,none⟩):=(hF.old (by kernel_rfl)).trans rfl
     have hx6:a'.eval (.tmp 6)=.bool un:=(hF.new (t:=6) (i:=5) (by kernel_rfl) (by simp) (hd 5 (by simp))).trans (cc.c5 (hd 5 (by simp)))
     have hr:=results_c2t (P:=Tryz.prog) (fn:=Tryz.f129) (tmps:=a'.tmps) rfl hx4 hx5 hx6 h2 k2 h3 k3 Tryz.underlying24 (by kernel_rfl) Tryz.underlying24 (by kernel_rfl)
     rw[h4 (hd 3 (by simp)),k4 (hd 4 (by simp))] at hr
     have HR:Hid _:=hr
     have HB:Hid _:=cc.bw
     have HD:Hid (a'.defers=[]):=hF.1
     clear hr cc hF hx4 hx5 hx6 h2 h3 h4 h5 k2 k3 k4 k5
     go_wp2
     exact bodyPost_ret HR.out HD.out ⟨⟨dv,ts,nx,un,KI.out,KB.out.1,rfl⟩,HB.out⟩
   ·rw[decide_eq_false hl] at hz
    have d0:wr.cell? ⟨w.heap.size+1+1,0,none⟩=some (B (l0 dv)):=KS.out.rd.cell 0
    have d1:wr.cell? ⟨w.heap.size+1+1,1,none⟩=some (B (l1 dv)):=KS.out.rd.cell 1
    have d2:wr.cell? ⟨w.heap.size+1+1,2,none⟩=some (B (l2 dv)):=KS.out.rd.cell 2
    have d3:wr.cell? ⟨w.heap.size+1+1,3,none⟩=some (B (l3 dv)):=KS.out.rd.cell 3
    obtain ⟨q,hq⟩:∃ q,q=dv/lf:=⟨_,rfl⟩
    obtain ⟨r,hr⟩:∃ r,r=dv%lf:=⟨_,rfl⟩
    obtain ⟨pq,hpq⟩:∃ x,x=q*nx:=⟨_,rfl⟩
    obtain ⟨sm,hsm⟩:∃ x,x=ts+pq:=⟨_,rfl⟩
    have hb:=KI.out.bound (Nat.pos_of_ne_zero hl)
    rw[← hq,← hpq,← hsm] at hb
    have hmW:=HM.out.2.1
    have htW:ts<W:=Nat.lt_of_le_of_lt KI.out.t hmW
    have hqW:q<W:=by rw[hq];exact Nat.lt_of_le_of_lt (Nat.div_le_self _ _) KB.out.1
    have c1:Hid (∀ w,Calls Tryz.prog 148 #[U dv,U lf] w fun e w'=>e=.returned (.tuple #[U q,U r])∧Below w.heap.size w w'):=by rw[hq,hr];exact cd.out dv lf KB.out.1 KB.out.2 (Nat.pos_of_ne_zero hl)
    have c2:Hid (∀ w,Calls Tryz.prog 149 #[U q,U nx] w fun e w'=>e=.returned (U pq)∧Below w.heap.size w w'):=by rw[hpq];exact cm.out q nx hqW (by omega) (by omega)
    have c3:Hid (∀ w,Calls Tryz.prog 124 #[U ts,U pq] w fun e w'=>e=.returned (.tuple #[U sm,.bool false])∧Below w.heap.size w w'):=by rw[hsm];exact ca.out ts pq htW (by omega) (by omega)
    have KN:Hid (EI a m lf r nx sm (!un)∧(lf<W∧r<W)∧r<lf):=by
     refine ⟨?_,⟨KB.out.2,?_⟩,?_⟩
     ·have:=KI.out.step (Nat.pos_of_ne_zero hl)
      rw[← hq,← hr,← hpq,← hsm] at this
      exact this
     ·rw[hr];exact Nat.lt_trans (Nat.mod_lt _ (Nat.pos_of_ne_zero hl)) KB.out.2
     ·rw[hr];exact Nat.mod_lt _ (Nat.pos_of_ne_zero hl)
    have hrow:=rowN_of KB.out.2 KS.out.rl
    clear hb hq hr hpq hsm hmW htW hqW
    go_wp2_with fail
    refine (c1.out _).mono ?_
    rintro e w5 ⟨rfl,hb5⟩
    have K5:Hid (EU w w5 g7 g8 dv lf ts nx):=KS.out.call hb5
    have q7:=K5.out.rl.lt
    have q8:=K5.out.rx.lt
    have o1:=K5.out.h7
    have o2:=K5.out.h8
    have o3:=K5.out.h78
    clear hb5 KS d0 d1 d2 d3 f0 f1 f2 f3 hz
    go_upto_region 5 with fail
    obtain ⟨bq,hbq⟩:∃ n,n=w5.heap.size:=⟨_,rfl⟩
    obtain ⟨br,hbr⟩:∃ n,n=bq+1:=⟨_,rfl⟩
    have E5:Hid (EU w ((w5.alloc (Obj.cells #[B (l0 q),B (l1 q),B (l2 q),B (l3 q)] 24)).alloc (Obj.cells #[B (l0 r),B (l1 r),B (l2 r),B (l3 r)] 24)) g7 g8 dv lf ts nx):=(K5.out.alloc _).alloc _
    have Eq:Hid (HRw ((w5.alloc (Obj.cells #[B (l0 q),B (l1 q),B (l2 q),B (l3 q)] 24)).alloc (Obj.cells #[B (l0 r),B (l1 r),B (l2 r),B (l3 r)] 24)) bq #[B (l0 q),B (l1 q),B (l2 q),B (l3 q)]):=HRw.old (HRw.last hbq)
    have Er:Hid (HRw ((w5.alloc (Obj.cells #[B (l0 q),B (l1 q),B (l2 q),B (l3 q)] 24)).alloc (Obj.cells #[B (l0 r),B (l1 r),B (l2 r),B (l3 r)] 24)) br #[B (l0 r),B (l1 r),B (l2 r),B (l3 r)]):=HRw.last (by rw[hbr,hbq];simp)
    rw[← hbq]
    rw[← hbr]
    rw[← hbq] at q7 q8
    clear K5
    generalize (w5.alloc (Obj.cells #[B (l0 q),B (l1 q),B (l2 q),B (l3 q)] 24)).alloc (Obj.cells #[B (l0 r),B (l1 r),B (l2 r),B (l3 r)] 24)=wA at *
    obtain ⟨N0,hN0⟩:∃ n,n=wA.heap.size:=⟨_,rfl⟩
    have hN:br<N0:=by rw[hN0];exact Er.out.lt
    clear hbq
    refine wRv2 (by kernel_rfl) (by kernel_rfl) (by kernel_rfl) (CE5 w N0 dv lf ts nx q r pq sm g7 g8 bq br) ?_ ?_ ?_
    ·refine ⟨E5.out.bw.drew,by rw[hN0];exact Nat.le_refl _,E5.out.rt,Eq.out,E5.out.rx,E5.out.rd,E5.out.rl,Er.out,?_,?_,?_,?_,?_,?_,?_,?_,?_,?_,?_⟩<;>(intro h;simp[Array.getD] at h)
    ·intro lz vs a' w' i o' hs ho hi hF cc
     have hin:i<11:=by have:=(Array.getElem?_eq_some_iff.1 ho).1;simpa using this
     have hcase:i=0∨i=1∨i=2∨i=3∨i=4∨i=5∨i=6∨i=7∨i=8∨i=9∨i=10:=by omega
     rcases hcase with rfl | rfl | rfl | rfl | rfl | rfl | rfl | rfl | rfl | rfl | rfl
     ·simp at ho
      subst ho
      have T:=dT lz 0
      have S:=dS lz 0
      exact wp_rowF 24 (.tmp 5) rfl (w.heap.size+1+1+1) ((hF.old (by kernel_rfl)).trans rfl) cc.R0 rfl Tryz.underlying24 (by kernel_rfl) ⟨_,rfl,⟨cc.bw,cc.ms,cc.R0,cc.R1,cc.R2,cc.R3,cc.R4,cc.R5,fun _=>rfl,fun h=>cc.c1 (T 1 (by decide) h),fun h=>cc.c2 (T 2 (by decide) h),fun h=>cc.c3 (T 3 (by decide) h),fun h=>cc.c4 (T 4 (by decide) h),fun h=>cc.c5 (T 5 (by decide) h),fun h=>cc.c6 (T 6 (by decide) h),fun h=>cc.c7 (T 7 (by decide) h),fun h=>by obtain ⟨g',c',e',k1,k2,k3,k4⟩:=cc.c8 (T 8 (by decide) h);exact ⟨g',c',e',k1,k2,k3,fun h6=>k4 (T 9 (by decide) h6)⟩,fun h=>S 8 (cc.c9 (T 9 (by decide) h)),fun h=>cc.c10 (T 10 (by decide) h)⟩⟩
     ·simp at ho
      subst ho
      have T:=dT lz 1
      have S:=dS lz 1
      exact wp_rowF 24 (.tmp 9) rfl (bq) ((hF.old (by kernel_rfl)).trans rfl) cc.R1 rfl Tryz.underlying24 (by kernel_rfl) ⟨_,rfl,⟨cc.bw,cc.ms,cc.R0,cc.R1,cc.R2,cc.R3,cc.R4,cc.R5,fun h=>cc.c0 (T 0 (by decide) h),fun _=>rfl,fun h=>cc.c2 (T 2 (by decide) h),fun h=>cc.c3 (T 3 (by decide) h),fun h=>cc.c4 (T 4 (by decide) h),fun h=>cc.c5 (T 5 (by decide) h),fun h=>cc.c6 (T 6 (by decide) h),fun h=>cc.c7 (T 7 (by decide) h),fun h=>by obtain ⟨g',c',e',k1,k2,k3,k4⟩:=cc.c8 (T 8 (by decide) h);exact ⟨g',c',e',k1,k2,k3,fun h6=>k4 (T 9 (by decide) h6)⟩,fun h=>S 8 (cc.c9 (T 9 (by decide) h)),fun h=>cc.c10 (T 10 (by decide) h)⟩⟩
     ·simp at ho
      subst ho
      have T:=dT lz 2
      have S:=dS lz 2
      exact wp_rowF 24 (.tmp 8) rfl (g8) ((hF.old (by kernel_rfl)).trans rfl) cc.R2 rfl Tryz.underlying24 (by kernel_rfl) ⟨_,rfl,⟨cc.bw,cc.ms,cc.R0,cc.R1,cc.R2,cc.R3,cc.R4,cc.R5,fun h=>cc.c0 (T 0 (by decide) h),fun h=>cc.c1 (T 1 (by decide) h),fun _=>rfl,fun h=>cc.c3 (T 3 (by decide) h),fun h=>cc.c4 (T 4 (by decide) h),fun h=>cc.c5 (T 5 (by decide) h),fun h=>cc.c6 (T 6 (by decide) h),fun h=>cc.c7 (T 7 (by decide) h),fun h=>by obtain ⟨g',c',e',k1,k2,k3,k4⟩:=cc.c8 (T 8 (by decide) h);exact ⟨g',c',e',k1,k2,k3,fun h6=>k4 (T 9 (by decide) h6)⟩,fun h=>S 8 (cc.c9 (T 9 (by decide) h)),fun h=>cc.c10 (T 10 (by decide) h)⟩⟩
     ·simp at ho
      subst ho
      have T:=dT lz 3
      have S:=dS lz 3
      have hv0:=((hF.new (t:=27) (i:=1) (by kernel_rfl) (by simp) (wDn (i:=3) (j:=1) (by kernel_rfl) hi)).trans (cc.c1 (wDn (i:=3) (j:=1) (by kernel_rfl) hi)))
      have hv1:=((hF.new (t:=28) (i:=2) (by kernel_rfl) (by simp) (wDn (i:=3) (j:=2) (by kernel_rfl) hi)).trans (cc.c2 (wDn (i:=3) (j:=2) (by kernel_rfl) hi)))
      refine wp_callF (f:=149) (args:=#[U q,U nx]) (v:=U pq) (by simp[execOp_call_go,ev hv0,ev hv1,go_sem]) (c2.out w') ?_
      intro w'' hb''
      exact ⟨_,rfl,⟨cc.bw.trans (hb''.mono cc.bw.size),Nat.le_trans cc.ms hb''.size,cc.R0.below hb'',cc.R1.below hb'',cc.R2.below hb'',cc.R3.below hb'',cc.R4.below hb'',cc.R5.below hb'',fun h=>cc.c0 (T 0 (by decide) h),fun h=>cc.c1 (T 1 (by decide) h),fun h=>cc.c2 (T 2 (by decide) h),fun _=>rfl,fun h=>cc.c4 (T 4 (by decide) h),fun h=>cc.c5 (T 5 (by decide) h),fun h=>cc.c6 (T 6 (by decide) h),fun h=>cc.c7 (T 7 (by decide) h),fun h=>by obtain ⟨g',c',e',k1,k2,k3,k4⟩:=cc.c8 (T 8 (by decide) h);exact ⟨g',c',e',k1,k2.below hb'',k3,fun h6=>k4 (T 9 (by decide) h6)⟩,fun h=>S 8 (cc.c9 (T 9 (by decide) h)),fun h=>cc.c10 (T 10 (by decide) h)⟩⟩
     ·simp at ho
      subst ho
      have T:=dT lz 4
      have S:=dS lz 4
      have hv0:=((hF.new (t:=26) (i:=0) (by kernel_rfl) (by simp) (wDn (i:=4) (j:=0) (by kernel_rfl) hi)).trans (cc.c0 (wDn (i:=4) (j:=0) (by kernel_rfl) hi)))
      have hv1:=((hF.new (t:=29) (i:=3) (by kernel_rfl) (by simp) (wDn (i:=4) (j:=3) (by kernel_rfl) hi)).trans (cc.c3 (wDn (i:=4) (j:=3) (by kernel_rfl) hi)))
      refine wp_callF (f:=124) (args:=#[U ts,U pq]) (v:=.tuple #[U sm,.bool false]) (by simp[execOp_call_go,ev hv0,ev hv1,go_sem]) (c3.out w') ?_
      intro w'' hb''
      exact ⟨_,rfl,⟨cc.bw.trans (hb''.mono cc.bw.size),Nat.le_trans cc.ms hb''.size,cc.R0.below hb'',cc.R1.below hb'',cc.R2.below hb'',cc.R3.below hb'',cc.R4.below hb'',cc.R5.below hb'',fun h=>cc.c0 (T 0 (by decide) h),fun h=>cc.c1 (T 1 (by decide) h),fun h=>cc.c2 (T 2 (by decide) h),fun h=>cc.c3 (T 3 (by decide) h),fun _=>rfl,fun h=>cc.c5 (T 5 (by decide) h),fun h=>cc.c6 (T 6 (by decide) h),fun h=>cc.c7 (T 7 (by decide) h),fun h=>by obtain ⟨g',c',e',k1,k2,k3,k4⟩:=cc.c8 (T 8 (by decide) h);exact ⟨g',c',e',k1,k2.below hb'',k3,fun h6=>k4 (T 9 (by decide) h6)⟩,fun h=>S 8 (cc.c9 (T 9 (by decide) h)),fun h=>cc.c10 (T 10 (by decide) h)⟩⟩
     ·simp at ho
      subst ho
      have T:=dT lz 5
      have S:=dS lz 5
      have hv:=((hF.new (t:=30) (i:=4) (by kernel_rfl) (by simp) (wDn (i:=5) (j:=4) (by kernel_rfl) hi)).trans (cc.c4 (wDn (i:=5) (j:=4) (by kernel_rfl) hi)))
      exact wVF (v:=.tuple #[U sm,.bool false]) (w1:=w') (by simp[execOp,go_sem,ev hv]) ⟨_,rfl,⟨cc.bw,cc.ms,cc.R0,cc.R1,cc.R2,cc.R3,cc.R4,cc.R5,fun h=>cc.c0 (T 0 (by decide) h),fun h=>cc.c1 (T 1 (by decide) h),fun h=>cc.c2 (T 2 (by decide) h),fun h=>cc.c3 (T 3 (by decide) h),fun h=>cc.c4 (T 4 (by decide) h),fun _=>rfl,fun h=>cc.c6 (T 6 (by decide) h),fun h=>cc.c7 (T 7 (by decide) h),fun h=>by obtain ⟨g',c',e',k1,k2,k3,k4⟩:=cc.c8 (T 8 (by decide) h);exact ⟨g',c',e',k1,k2,k3,fun h6=>k4 (T 9 (by decide) h6)⟩,fun h=>S 8 (cc.c9 (T 9 (by decide) h)),fun h=>cc.c10 (T 10 (by decide) h)⟩⟩
     ·simp at ho
      subst ho
      have T:=dT lz 6
      have S:=dS lz 6
      have hv:=((hF.new (t:=25) (i:=5) (by kernel_rfl) (by simp) (wDn (i:=6) (j:=5) (by kernel_rfl) hi)).trans (cc.c5 (wDn (i:=6) (j:=5) (by kernel_rfl) hi)))
      exact wVF (v:=U sm) (w1:=w') (by simp[execOp,go_sem,ev hv]) ⟨_,rfl,⟨cc.bw,cc.ms,cc.R0,cc.R1,cc.R2,cc.R3,cc.R4,cc.R5,fun h=>cc.c0 (T 0 (by decide) h),fun h=>cc.c1 (T 1 (by decide) h),fun h=>cc.c2 (T 2 (by decide) h),fun h=>cc.c3 (T 3 (by decide) h),fun h=>cc.c4 (T 4 (by decide) h),fun h=>cc.c5 (T 5 (by decide) h),fun _=>rfl,fun h=>cc.c7 (T 7 (by decide) h),fun h=>by obtain ⟨g',c',e',k1,k2,k3,k4⟩:=cc.c8 (T 8 (by decide) h);exact ⟨g',c',e',k1,k2,k3,fun h6=>k4 (T 9 (by decide) h6)⟩,fun h=>S 8 (cc.c9 (T 9 (by decide) h)),fun h=>cc.c10 (T 10 (by decide) h)⟩⟩
     ·simp at ho
      subst ho
      have T:=dT lz 7
      have S:=dS lz 7
      have hv:=((hF.new (t:=25) (i:=5) (by kernel_rfl) (by simp) (wDn (i:=7) (j:=5) (by kernel_rfl) hi)).trans (cc.c5 (wDn (i:=7) (j:=5) (by kernel_rfl) hi)))
      exact wVF (v:=.bool false) (w1:=w') (by simp[execOp,go_sem,ev hv]) ⟨_,rfl,⟨cc.bw,cc.ms,cc.R0,cc.R1,cc.R2,cc.R3,cc.R4,cc.R5,fun h=>cc.c0 (T 0 (by decide) h),fun h=>cc.c1 (T 1 (by decide) h),fun h=>cc.c2 (T 2 (by decide) h),fun h=>cc.c3 (T 3 (by decide) h),fun h=>cc.c4 (T 4 (by decide) h),fun h=>cc.c5 (T 5 (by decide) h),fun h=>cc.c6 (T 6 (by decide) h),fun _=>rfl,fun h=>by obtain ⟨g',c',e',k1,k2,k3,k4⟩:=cc.c8 (T 8 (by decide) h);exact ⟨g',c',e',k1,k2,k3,fun h6=>k4 (T 9 (by decide) h6)⟩,fun h=>S 8 (cc.c9 (T 9 (by decide) h)),fun h=>cc.c10 (T 10 (by decide) h)⟩⟩
     ·simp at ho
      subst ho
      have T:=dT lz 8
      have S:=dS lz 8
      have hun:¬ lz.getD 8 false=true:=fun h=>undone hi hs h
      exact wVF (v:=.pointer (some ⟨w'.heap.size,0,none⟩)) (w1:=w'.alloc (.cells #[.int .u64 0,.int .u64 0,.int .u64 0,.int .u64 0] 24)) (by simp[execOp,go_sem]) ⟨_,rfl,⟨bAl cc.bw _,by have:=cc.ms;simp;omega,cc.R0.old,cc.R1.old,cc.R2.old,cc.R3.old,cc.R4.old,cc.R5.old,fun h=>cc.c0 (T 0 (by decide) h),fun h=>cc.c1 (T 1 (by decide) h),fun h=>cc.c2 (T 2 (by decide) h),fun h=>cc.c3 (T 3 (by decide) h),fun h=>cc.c4 (T 4 (by decide) h),fun h=>cc.c5 (T 5 (by decide) h),fun h=>cc.c6 (T 6 (by decide) h),fun h=>cc.c7 (T 7 (by decide) h),fun _=>⟨w'.heap.size,#[.int .u64 0,.int .u64 0,.int .u64 0,.int .u64 0],rfl,cc.ms,HRw.last rfl,rfl,fun h6=>absurd (cc.c9 (T 9 (by decide) h6)) hun⟩,fun h=>S 8 (cc.c9 (T 9 (by decide) h)),fun h=>cc.c10 (T 10 (by decide) h)⟩⟩
     ·simp at ho
      subst ho
      have T:=dT lz 9
      have S:=dS lz 9
      have d4:=(wDn (i:=9) (j:=8) (by kernel_rfl) hi)
      obtain ⟨g,c,e,h1,h2,h3,h4⟩:=cc.c8 d4
      have hx:=(hF.new (t:=11) (i:=8) (by kernel_rfl) (by simp) d4).trans e
      have hv:=((hF.new (t:=31) (i:=6) (by kernel_rfl) (by simp) (wDn (i:=9) (j:=6) (by kernel_rfl) hi)).trans (cc.c6 (wDn (i:=9) (j:=6) (by kernel_rfl) hi)))
      exact wp_rowS 24 (.tmp 11) (.tmp 31) rfl g (c':=#[B (l0 sm),B (l1 sm),B (l2 sm),B (l3 sm)]) hx hv h2 h3 rfl (by simp[Value.oneCell']) (by kernel_rfl) ⟨_,rfl,⟨bSR cc.bw (by omega) _,by rw[sSR];exact cc.ms,cc.R0.set_other _ (by omega),cc.R1.set_other _ (by omega),cc.R2.set_other _ (by omega),cc.R3.set_other _ (by omega),cc.R4.set_other _ (by omega),cc.R5.set_other _ (by omega),fun h=>cc.c0 (T 0 (by decide) h),fun h=>cc.c1 (T 1 (by decide) h),fun h=>cc.c2 (T 2 (by decide) h),fun h=>cc.c3 (T 3 (by decide) h),fun h=>cc.c4 (T 4 (by decide) h),fun h=>cc.c5 (T 5 (by decide) h),fun h=>cc.c6 (T 6 (by decide) h),fun h=>cc.c7 (T 7 (by decide) h),fun h=>⟨g,_,e,h1,h2.set_same _,rfl,fun _=>rfl⟩,fun _=>S 8 d4,fun h=>cc.c10 (T 10 (by decide) h)⟩⟩
     ·simp at ho
      subst ho
      have T:=dT lz 10
      have S:=dS lz 10
      have hv:=((hF.new (t:=32) (i:=7) (by kernel_rfl) (by simp) (wDn (i:=10) (j:=7) (by kernel_rfl) hi)).trans (cc.c7 (wDn (i:=10) (j:=7) (by kernel_rfl) hi)))
      exact wVF (v:=.bool false) (w1:=w') (by simp[execOp,go_sem,ev hv]) ⟨_,rfl,⟨cc.bw,cc.ms,cc.R0,cc.R1,cc.R2,cc.R3,cc.R4,cc.R5,fun h=>cc.c0 (T 0 (by decide) h),fun h=>cc.c1 (T 1 (by decide) h),fun h=>cc.c2 (T 2 (by decide) h),fun h=>cc.c3 (T 3 (by decide) h),fun h=>cc.c4 (T 4 (by decide) h),fun h=>cc.c5 (T 5 (by decide) h),fun h=>cc.c6 (T 6 (by decide) h),fun h=>cc.c7 (T 7 (by decide) h),fun h=>by obtain ⟨g',c',e',k1,k2,k3,k4⟩:=cc.c8 (T 8 (by decide) h);exact ⟨g',c',e',k1,k2,k3,fun h6=>k4 (T 9 (by decide) h6)⟩,fun h=>S 8 (cc.c9 (T 9 (by decide) h)),fun _=>rfl⟩⟩
    ·intro lz vs a' w' hd hF cc
     have e:a'=({ tmps:=#[U a,U m,.pointer (some ⟨w.heap.size,0,none⟩),.pointer (some ⟨w.heap.size+1,0,none⟩),.pointer (some ⟨w.heap.size+1+1,0,none⟩),.pointer (some ⟨w.heap.size+1+1+1,0,none⟩),.bool un,.pointer (some ⟨g7,0,none⟩),.pointer (some ⟨g8,0,none⟩),.pointer (some ⟨bq,0,none⟩),.pointer (some ⟨br,0,none⟩),vs 8,vs 10,.agg #[B (l0 m),B (l1 m),B (l2 m),B (l3 m)],p14,p15,.agg #[B (l0 lf),B (l1 lf),B (l2 lf),B (l3 lf)],.agg #[.int .u64 0,.int .u64 0,.int .u64 0,.int .u64 0],.bool true,.tuple #[U q,U r],.agg #[B (l0 dv),B (l1 dv),B (l2 dv),B (l3 dv)],.agg #[B (l0 lf),B (l1 lf),B (l2 lf),B (l3 lf)],.tuple #[U q,U r],U q,U r,vs 5,vs 0,vs 1,vs 2,vs 3,vs 4,vs 6,vs 7,u33,u34,u35,u36,u37,u38,undef,undef,undef],defers:=[] }:Act):=(hF.all hd).trans (by kernel_rfl)
     subst e
     obtain ⟨g11,c,e8,h1,h2,h3,h4⟩:=cc.c8 (hd 8 (by simp))
     have V0:Hid (HRw w' (w.heap.size+1+1) #[B (l0 dv),B (l1 dv),B (l2 dv),B (l3 dv)]∧HRw w' g7 #[B (l0 lf),B (l1 lf),B (l2 lf),B (l3 lf)]∧HRw w' (w.heap.size+1+1+1) #[B (l0 ts),B (l1 ts),B (l2 ts),B (l3 ts)]∧HRw w' g8 #[B (l0 nx),B (l1 nx),B (l2 nx),B (l3 nx)]∧HRw w' br #[B (l0 r),B (l1 r),B (l2 r),B (l3 r)]∧HRw w' g11 #[B (l0 sm),B (l1 sm),B (l2 sm),B (l3 sm)]∧Below w.heap.size w w'):=⟨cc.R3,cc.R4,cc.R0,cc.R2,cc.R5,h4 (hd 9 (by simp)) ▸ h2,cc.bw⟩
     have o5:br<g11:=by omega
     rw[e8]
     generalize vs 10=p12
     generalize vs 5=p25
     generalize vs 0=p26
     generalize vs 1=p27
     generalize vs 2=p28
     generalize vs 3=p29
     generalize vs 4=p30
     generalize vs 6=p31
     generalize vs 7=p32
     clear cc hd hF h2 h3 h4 e8
     go_wp2
     generalize w'=w5' at *
     refine wRv2 (by kernel_rfl) (by kernel_rfl) (by kernel_rfl) (CE6 w 0 lf ts nx r sm g7 g8 br g11) ?_ ?_ ?_
     ·refine ⟨V0.out.2.2.2.2.2.2.drew,Nat.zero_le _,V0.out.2.2.2.2.1,V0.out.2.2.1,V0.out.2.2.2.1,V0.out.2.2.2.2.2.1,?_,?_,⟨_,V0.out.1,rfl,?_⟩,⟨_,V0.out.2.1,rfl,?_,fun _=>rfl⟩,?_⟩<;>(intro h;simp[Array.getD] at h)
     ·intro lz vs a' w' i o' hs ho hi hF cc
      have hin:i<4:=by have:=(Array.getElem?_eq_some_iff.1 ho).1;simpa using this
      have hcase:i=0∨i=1∨i=2∨i=3:=by omega
      rcases hcase with rfl | rfl | rfl | rfl
      ·simp at ho
       subst ho
       have T:=dT lz 0
       have S:=dS lz 0
       have hun:¬ lz.getD 0 false=true:=fun h=>undone hi hs h
       obtain ⟨c,h2,h3,h4,h5⟩:=cc.c3
       have hc:=h5 (fun h=>hun (cc.e3_0 h))
       subst hc
       exact wp_rowF 24 (.tmp 7) rfl (g7) ((hF.old (by kernel_rfl)).trans rfl) h2 h3 Tryz.underlying24 (by kernel_rfl) ⟨_,rfl,⟨cc.bw,cc.ms,cc.R0,cc.R1,cc.R2,cc.R3,fun _=>rfl,fun h=>cc.c1 (T 1 (by decide) h),by obtain ⟨c',k2,k3,k4⟩:=cc.c2;exact ⟨c',k2,k3,fun h6=>k4 (T 2 (by decide) h6)⟩,by obtain ⟨c',k2,k3,k4,k5⟩:=cc.c3;exact ⟨c',k2,k3,fun h6=>k4 (T 3 (by decide) h6),fun h6=>k5 (fun h7=>h6 (S 3 h7))⟩,fun h=>S 0 (cc.e3_0 (T 3 (by decide) h))⟩⟩
      ·simp at ho
       subst ho
       have T:=dT lz 1
       have S:=dS lz 1
       exact wp_rowF 24 (.tmp 10) rfl (br) ((hF.old (by kernel_rfl)).trans rfl) cc.R0 rfl Tryz.underlying24 (by kernel_rfl) ⟨_,rfl,⟨cc.bw,cc.ms,cc.R0,cc.R1,cc.R2,cc.R3,fun h=>cc.c0 (T 0 (by decide) h),fun _=>rfl,by obtain ⟨c',k2,k3,k4⟩:=cc.c2;exact ⟨c',k2,k3,fun h6=>k4 (T 2 (by decide) h6)⟩,by obtain ⟨c',k2,k3,k4,k5⟩:=cc.c3;exact ⟨c',k2,k3,fun h6=>k4 (T 3 (by decide) h6),fun h6=>k5 (fun h7=>h6 (S 3 h7))⟩,fun h=>S 0 (cc.e3_0 (T 3 (by decide) h))⟩⟩
      ·simp at ho
       subst ho
       have T:=dT lz 2
       have S:=dS lz 2
       have hv:=((hF.new (t:=33) (i:=0) (by kernel_rfl) (by simp) (wDn (i:=2) (j:=0) (by kernel_rfl) hi)).trans (cc.c0 (wDn (i:=2) (j:=0) (by kernel_rfl) hi)))
       obtain ⟨c,h2,h3,h4⟩:=cc.c2
       exact wp_rowS 24 (.tmp 4) (.tmp 33) rfl (w.heap.size+1+1) (c':=#[B (l0 lf),B (l1 lf),B (l2 lf),B (l3 lf)]) ((hF.old (by kernel_rfl)).trans rfl) hv h2 h3 rfl (by simp[Value.oneCell']) (by kernel_rfl) ⟨_,rfl,⟨bSR cc.bw (by omega) _,by rw[sSR];exact cc.ms,cc.R0.set_other _ (by omega),cc.R1.set_other _ (by omega),cc.R2.set_other _ (by omega),cc.R3.set_other _ (by omega),fun h=>cc.c0 (T 0 (by decide) h),fun h=>cc.c1 (T 1 (by decide) h),⟨_,h2.set_same _,rfl,fun _=>rfl⟩,by obtain ⟨c',k2,k3,k4,k5⟩:=cc.c3;exact ⟨c',k2.set_other _ (by omega),k3,fun h6=>k4 (T 3 (by decide) h6),fun h6=>k5 (fun h7=>h6 (S 3 h7))⟩,fun h=>S 0 (cc.e3_0 (T 3 (by decide) h))⟩⟩
      ·simp at ho
       subst ho
       have T:=dT lz 3
       have S:=dS lz 3
       have hv:=((hF.new (t:=34) (i:=1) (by kernel_rfl) (by simp) (wDn (i:=3) (j:=1) (by kernel_rfl) hi)).trans (cc.c1 (wDn (i:=3) (j:=1) (by kernel_rfl) hi)))
       obtain ⟨c,h2,h3,h4,h5⟩:=cc.c3
       exact wp_rowS 24 (.tmp 7) (.tmp 34) rfl (g7) (c':=#[B (l0 r),B (l1 r),B (l2 r),B (l3 r)]) ((hF.old (by kernel_rfl)).trans rfl) hv h2 h3 rfl (by simp[Value.oneCell']) (by kernel_rfl) ⟨_,rfl,⟨bSR cc.bw (by omega) _,by rw[sSR];exact cc.ms,cc.R0.set_other _ (by omega),cc.R1.set_other _ (by omega),cc.R2.set_other _ (by omega),cc.R3.set_other _ (by omega),fun h=>cc.c0 (T 0 (by decide) h),fun h=>cc.c1 (T 1 (by decide) h),by obtain ⟨c',k2,k3,k4⟩:=cc.c2;exact ⟨c',k2.set_other _ (by omega),k3,fun h6=>k4 (T 2 (by decide) h6)⟩,⟨_,h2.set_same _,rfl,fun _=>rfl,fun h6=>absurd (done_me hs (by simp)) h6⟩,fun _=>S 0 (wDn (i:=3) (j:=0) (by kernel_rfl) hi)⟩⟩
     ·intro lz vs a' w' hd hF cc
      have e:a'=({ tmps:=#[U a,U m,.pointer (some ⟨w.heap.size,0,none⟩),.pointer (some ⟨w.heap.size+1,0,none⟩),.pointer (some ⟨w.heap.size+1+1,0,none⟩),.pointer (some ⟨w.heap.size+1+1+1,0,none⟩),.bool un,.pointer (some ⟨g7,0,none⟩),.pointer (some ⟨g8,0,none⟩),.pointer (some ⟨bq,0,none⟩),.pointer (some ⟨br,0,none⟩),.pointer (some ⟨g11,0,none⟩),p12,.agg #[B (l0 m),B (l1 m),B (l2 m),B (l3 m)],p14,p15,.agg #[B (l0 lf),B (l1 lf),B (l2 lf),B (l3 lf)],.agg #[.int .u64 0,.int .u64 0,.int .u64 0,.int .u64 0],.bool true,.tuple #[U q,U r],.agg #[B (l0 dv),B (l1 dv),B (l2 dv),B (l3 dv)],.agg #[B (l0 lf),B (l1 lf),B (l2 lf),B (l3 lf)],.tuple #[U q,U r],U q,U r,p25,p26,p27,p28,p29,p30,p31,p32,vs 0,vs 1,u35,u36,u37,u38,undef,undef,undef],defers:=[] }:Act):=(hF.all hd).trans (by kernel_rfl)
      subst e
      obtain ⟨c,h2,h3,h4⟩:=cc.c2
      obtain ⟨c',k2,k3,k4,k5⟩:=cc.c3
      have V1:Hid (HRw w' (w.heap.size+1+1) #[B (l0 lf),B (l1 lf),B (l2 lf),B (l3 lf)]∧HRw w' g7 #[B (l0 r),B (l1 r),B (l2 r),B (l3 r)]∧HRw w' (w.heap.size+1+1+1) #[B (l0 ts),B (l1 ts),B (l2 ts),B (l3 ts)]∧HRw w' g8 #[B (l0 nx),B (l1 nx),B (l2 nx),B (l3 nx)]∧HRw w' g11 #[B (l0 sm),B (l1 sm),B (l2 sm),B (l3 sm)]∧Below w.heap.size w w'):=⟨h4 (hd 2 (by simp)) ▸ h2,k4 (hd 3 (by simp)) ▸ k2,cc.R1,cc.R2,cc.R3,cc.bw⟩
      generalize vs 0=p33
      generalize vs 1=p34
      clear cc hd hF h2 h3 h4 k2 k3 k4 k5
      go_wp2
      generalize w'=w6 at *
      refine wRv2 (by kernel_rfl) (by kernel_rfl) (by kernel_rfl) (CE7 w 0 lf nx r sm g7 g8 g11) ?_ ?_ ?_
      ·refine ⟨V1.out.2.2.2.2.2.drew,Nat.zero_le _,V1.out.2.2.2.2.1,V1.out.1,V1.out.2.1,?_,?_,⟨_,V1.out.2.2.1,rfl,?_⟩,⟨_,V1.out.2.2.2.1,rfl,?_,fun _=>rfl⟩,?_⟩<;>(intro h;simp[Array.getD] at h)
      ·intro lz vs a' w' i o' hs ho hi hF cc
       have hin:i<4:=by have:=(Array.getElem?_eq_some_iff.1 ho).1;simpa using this
       have hcase:i=0∨i=1∨i=2∨i=3:=by omega
       rcases hcase with rfl | rfl | rfl | rfl
       ·simp at ho
        subst ho
        have T:=dT lz 0
        have S:=dS lz 0
        have hun:¬ lz.getD 0 false=true:=fun h=>undone hi hs h
        obtain ⟨c,h2,h3,h4,h5⟩:=cc.c3
        have hc:=h5 (fun h=>hun (cc.e3_0 h))
        subst hc
        exact wp_rowF 24 (.tmp 8) rfl (g8) ((hF.old (by kernel_rfl)).trans rfl) h2 h3 Tryz.underlying24 (by kernel_rfl) ⟨_,rfl,⟨cc.bw,cc.ms,cc.R0,cc.R1,cc.R2,fun _=>rfl,fun h=>cc.c1 (T 1 (by decide) h),by obtain ⟨c',k2,k3,k4⟩:=cc.c2;exact ⟨c',k2,k3,fun h6=>k4 (T 2 (by decide) h6)⟩,by obtain ⟨c',k2,k3,k4,k5⟩:=cc.c3;exact ⟨c',k2,k3,fun h6=>k4 (T 3 (by decide) h6),fun h6=>k5 (fun h7=>h6 (S 3 h7))⟩,fun h=>S 0 (cc.e3_0 (T 3 (by decide) h))⟩⟩
       ·simp at ho
        subst ho
        have T:=dT lz 1
        have S:=dS lz 1
        exact wp_rowF 24 (.tmp 11) rfl (g11) ((hF.old (by kernel_rfl)).trans rfl) cc.R0 rfl Tryz.underlying24 (by kernel_rfl) ⟨_,rfl,⟨cc.bw,cc.ms,cc.R0,cc.R1,cc.R2,fun h=>cc.c0 (T 0 (by decide) h),fun _=>rfl,by obtain ⟨c',k2,k3,k4⟩:=cc.c2;exact ⟨c',k2,k3,fun h6=>k4 (T 2 (by decide) h6)⟩,by obtain ⟨c',k2,k3,k4,k5⟩:=cc.c3;exact ⟨c',k2,k3,fun h6=>k4 (T 3 (by decide) h6),fun h6=>k5 (fun h7=>h6 (S 3 h7))⟩,fun h=>S 0 (cc.e3_0 (T 3 (by decide) h))⟩⟩
       ·simp at ho
        subst ho
        have T:=dT lz 2
        have S:=dS lz 2
        have hv:=((hF.new (t:=35) (i:=0) (by kernel_rfl) (by simp) (wDn (i:=2) (j:=0) (by kernel_rfl) hi)).trans (cc.c0 (wDn (i:=2) (j:=0) (by kernel_rfl) hi)))
        obtain ⟨c,h2,h3,h4⟩:=cc.c2
        exact wp_rowS 24 (.tmp 5) (.tmp 35) rfl (w.heap.size+1+1+1) (c':=#[B (l0 nx),B (l1 nx),B (l2 nx),B (l3 nx)]) ((hF.old (by kernel_rfl)).trans rfl) hv h2 h3 rfl (by simp[Value.oneCell']) (by kernel_rfl) ⟨_,rfl,⟨bSR cc.bw (by omega) _,by rw[sSR];exact cc.ms,cc.R0.set_other _ (by omega),cc.R1.set_other _ (by omega),cc.R2.set_other _ (by omega),fun h=>cc.c0 (T 0 (by decide) h),fun h=>cc.c1 (T 1 (by decide) h),⟨_,h2.set_same _,rfl,fun _=>rfl⟩,by obtain ⟨c',k2,k3,k4,k5⟩:=cc.c3;exact ⟨c',k2.set_other _ (by omega),k3,fun h6=>k4 (T 3 (by decide) h6),fun h6=>k5 (fun h7=>h6 (S 3 h7))⟩,fun h=>S 0 (cc.e3_0 (T 3 (by decide) h))⟩⟩
       ·simp at ho
        subst ho
        have T:=dT lz 3
        have S:=dS lz 3
        have hv:=((hF.new (t:=36) (i:=1) (by kernel_rfl) (by simp) (wDn (i:=3) (j:=1) (by kernel_rfl) hi)).trans (cc.c1 (wDn (i:=3) (j:=1) (by kernel_rfl) hi)))
        obtain ⟨c,h2,h3,h4,h5⟩:=cc.c3
        exact wp_rowS 24 (.tmp 8) (.tmp 36) rfl (g8) (c':=#[B (l0 sm),B (l1 sm),B (l2 sm),B (l3 sm)]) ((hF.old (by kernel_rfl)).trans rfl) hv h2 h3 rfl (by simp[Value.oneCell']) (by kernel_rfl) ⟨_,rfl,⟨bSR cc.bw (by omega) _,by rw[sSR];exact cc.ms,cc.R0.set_other _ (by omega),cc.R1.set_other _ (by omega),cc.R2.set_other _ (by omega),fun h=>cc.c0 (T 0 (by decide) h),fun h=>cc.c1 (T 1 (by decide) h),by obtain ⟨c',k2,k3,k4⟩:=cc.c2;exact ⟨c',k2.set_other _ (by omega),k3,fun h6=>k4 (T 2 (by decide) h6)⟩,⟨_,h2.set_same _,rfl,fun _=>rfl,fun h6=>absurd (done_me hs (by simp)) h6⟩,fun _=>S 0 (wDn (i:=3) (j:=0) (by kernel_rfl) hi)⟩⟩
      ·intro lz vs a' w' hd hF cc
       have e:a'=({ tmps:=#[U a,U m,.pointer (some ⟨w.heap.size,0,none⟩),.pointer (some ⟨w.heap.size+1,0,none⟩),.pointer (some ⟨w.heap.size+1+1,0,none⟩),.pointer (some ⟨w.heap.size+1+1+1,0,none⟩),.bool un,.pointer (some ⟨g7,0,none⟩),.pointer (some ⟨g8,0,none⟩),.pointer (some ⟨bq,0,none⟩),.pointer (some ⟨br,0,none⟩),.pointer (some ⟨g11,0,none⟩),p12,.agg #[B (l0 m),B (l1 m),B (l2 m),B (l3 m)],p14,p15,.agg #[B (l0 lf),B (l1 lf),B (l2 lf),B (l3 lf)],.agg #[.int .u64 0,.int .u64 0,.int .u64 0,.int .u64 0],.bool true,.tuple #[U q,U r],.agg #[B (l0 dv),B (l1 dv),B (l2 dv),B (l3 dv)],.agg #[B (l0 lf),B (l1 lf),B (l2 lf),B (l3 lf)],.tuple #[U q,U r],U q,U r,p25,p26,p27,p28,p29,p30,p31,p32,p33,p34,vs 0,vs 1,u37,u38,undef,undef,undef],defers:=[] }:Act):=(hF.all hd).trans (by kernel_rfl)
       subst e
       obtain ⟨c,h2,h3,h4⟩:=cc.c2
       obtain ⟨c',k2,k3,k4,k5⟩:=cc.c3
       have V2:Hid (EU w w' g7 g8 lf r nx sm):=⟨cc.R1,h4 (hd 2 (by simp)) ▸ h2,cc.R2,k4 (hd 3 (by simp)) ▸ k2,cc.bw,o1,o2,o3⟩
       generalize vs 0=p35
       generalize vs 1=p36
       clear cc hd hF h2 h3 h4 k2 k3 k4 k5
       go_wp2
       go_roundw
       case rel=>exact ⟨lf,r,nx,sm,!un,rfl,V2.out,KN.out.2.1,KN.out.1⟩
       case measure=>
        show rowN _ _<rowN _ _
        rw[rowN_of KN.out.2.1.2 V2.out.rl,hrow]
        exact KN.out.2.2
end Go.Proofs.YtfhppenjbmmadaaGreatDoor
