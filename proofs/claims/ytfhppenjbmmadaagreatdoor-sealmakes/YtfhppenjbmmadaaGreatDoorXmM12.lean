import Derived.Test.YtfhppenjbmmadaaGreatDoorXmLm
namespace Go.Proofs.YtfhppenjbmmadaaGreatDoor
set_option linter.unusedVariables false
set_option maxHeartbeats 8000000
section
open Go.RowKit Go.Sort
theorem top_there(f:Nat→Nat):∀ N:Nat,∃ n,n≤N∧(∀ i,n≤i→i<N→f i=0)∧(0<n→f (n-1)≠0)
 | 0=>⟨0,Nat.le_refl _,fun i _ h=>by omega,fun h=>by omega⟩
 | N+1=>by
  by_cases h:f N=0
  ·obtain ⟨n,h1,h2,h3⟩:=top_there f N
   refine ⟨n,by omega,fun i hi hi2=>?_,h3⟩
   by_cases e:i=N
   ·subst e;exact h
   ·exact h2 i hi (by omega)
  ·exact ⟨N+1,Nat.le_refl _,fun i h1 h2=>by omega,fun _=>h⟩
theorem top_same{f:Nat→Nat}{n m:Nat}(hn:n≤8)(hm:m≤8)(h1:∀ i,n≤i→i<8→f i=0)(h2:0<n→f (n-1)≠0)(k1:∀ i,m≤i→i<8→f i=0)(k2:0<m→f (m-1)≠0):n=m:=by
 rcases Nat.lt_trichotomy n m with h | h | h
 ·exact absurd (h1 (m-1) (by omega) (by omega)) (k2 (by omega))
 ·exact h
 ·exact absurd (k1 (n-1) (by omega) (by omega)) (h2 (by omega))
theorem top_any(f:Nat→Nat)(n:Nat)(hn:n≤8)(h1:∀ i,n≤i→i<8→f i=0)(h2:0<n→f (n-1)≠0)(w:World) :
  Calls Tryz.prog 144 #[A8 f] w fun e w'=>e=.returned (.int .i64 (n:Int))∧Below w.heap.size w w':=by
 refine (top_raw f w).mono ?_
 rintro e w' ⟨⟨m,hm,k1,k2,rfl⟩,hb⟩
 rw[top_same hn hm h1 h2 k1 k2]
 exact ⟨rfl,hb⟩
theorem ag_cong{k:IntKind}{n:Nat}{f g:Nat→Nat}(h:∀ i,i<n→f i=g i):ag k n f=ag k n g:=by
 apply Array.ext_getElem?
 intro i
 rw[agG,agG]
 by_cases hi:i<n
 ·rw[if_pos hi,if_pos hi,h i hi]
 ·rw[if_neg hi,if_neg hi]
theorem LR.same{X V:Nat}{q o:Nat→Nat}(h:LR X V q o):Value.tuple #[A16 q,A8 o]=Value.tuple #[A16 (dg (X/V)),A8 (dg (rm X V))]:=by
 have e1:ag .u64 16 q=ag .u64 16 (dg (X/V)):=ag_cong fun i hi=>by rw[← h.vq,dg_vl h.hq hi]
 have e2:ag .u64 8 o=ag .u64 8 (dg (rm X V)):=ag_cong fun i hi=>by unfold rm;rw[← h.vo,dg_vl h.ho hi]
 unfold A16 A8
 rw[e1,e2]
theorem long_any(d m:Nat→Nat)(hd:∀ i,i<16→d i<D)(hm:∀ i,i<8→m i<D)(w:World) :
  Calls Tryz.prog 115 #[A16 d,A8 m] w fun e w'=>e=.returned (.tuple #[A16 (dg (vl d 0 16/vl m 0 8)),A8 (dg (rm (vl d 0 16) (vl m 0 8)))])∧Below w.heap.size w w':=by
 obtain ⟨n,hn,h1,h2⟩:=top_there m 8
 have ct:=fun w=>top_any m n hn h1 h2 w
 rcases n with _ | _ | k
 ·have e:vl m 0 8=0:=vl_of_zero fun i hi=>by rw[Nat.zero_add];exact h1 i (Nat.zero_le _) hi
  rw[e]
  refine (long_zero d m (vl d 0 16) ct w).mono ?_
  rintro e w' ⟨⟨q,o,hL,rfl⟩,hb⟩
  exact ⟨by rw[hL.same],hb⟩
 ·have e:vl m 0 8=m 0:=by rw[vl_cut (f:=m) (a:=1) (b:=8) (by omega) h1,vl_one]
  rw[e]
  refine (long_one d m (Nat.pos_of_ne_zero (h2 (by omega))) (hm 0 (by omega)) hd ct w).mono ?_
  rintro e w' ⟨⟨q,o,hL,rfl⟩,hb⟩
  exact ⟨by rw[hL.same],hb⟩
 ·refine (long_main d m k (by omega) hd hm (Nat.pos_of_ne_zero (h2 (by omega))) h1 (fun w=>?_) w).mono ?_
  ·have h:=ct w
   rw[show ((k+1+1:Nat):Int)=(k:Int)+2 by omega] at h
   exact h
  ·rintro e w' ⟨⟨q,o,hL,rfl⟩,hb⟩
   exact ⟨by rw[hL.same],hb⟩
end
section
open Go.RowKit Go.Sort
structure CRR (w:World) (N0:Nat) (m:Nat) (dd fm q o:Nat→Nat) (lz:Array Bool) (vs:Nat→Value) (w':World):Prop where
 bw:Below w.heap.size w w'
 ms:N0≤w'.heap.size
 R0:HRw w' (w.heap.size+1+1+1+1) (ag .u64 16 dd)
 R1:HRw w' (w.heap.size+1+1) #[B (l0 m),B (l1 m),B (l2 m),B (l3 m)]
 R2:HRw w' (w.heap.size+1+1+1) #[.int .u64 0,.int .u64 0,.int .u64 0,.int .u64 0]
 c0:lz.getD 0 false=true→vs 0=A16 dd
 c1:lz.getD 1 false=true→vs 1=U m
 c2:lz.getD 2 false=true→vs 2=A8 fm
 c3:lz.getD 3 false=true→vs 3=.tuple #[A16 q,A8 o]
 c4:lz.getD 4 false=true→vs 4=.tuple #[A16 q,A8 o]
 c5:lz.getD 5 false=true→vs 5=A16 q
 c6:lz.getD 6 false=true→vs 6=A8 o
 c7:lz.getD 7 false=true→∃ g c,vs 7=.pointer (some ⟨g,0,none⟩)∧N0≤g∧HRw w' g c∧c.size=16∧(lz.getD 9 false=true→c=(ag .u64 16 q))
 c8:lz.getD 8 false=true→∃ g c,vs 8=.pointer (some ⟨g,0,none⟩)∧N0≤g∧HRw w' g c∧c.size=8∧(lz.getD 10 false=true→c=(ag .u64 8 o))
 c9:lz.getD 9 false=true→lz.getD 7 false=true
 c10:lz.getD 10 false=true→lz.getD 8 false=true
 ne7_8:lz.getD 7 false=true→lz.getD 8 false=true→vs 7≠vs 8
structure RR (w w':World) (hi lo m b1 b2:Nat) (fh fl dd:Nat→Nat):Prop where
 m:HRw w' (w.heap.size+1+1) #[B (l0 m),B (l1 m),B (l2 m),B (l3 m)]
 r:HRw w' (w.heap.size+1+1+1) #[.int .u64 0,.int .u64 0,.int .u64 0,.int .u64 0]
 d:HRw w' (w.heap.size+1+1+1+1) (ag .u64 16 dd)
 h:HRw w' b1 (ag .u64 8 fh)
 l:HRw w' b2 (ag .u64 8 fl)
 b:Below w.heap.size w w'
 g1:w.heap.size+1+1+1+1<b1
 g2:b1<b2
theorem RR.put{w w':World}{hi lo m b1 b2:Nat}{fh fl dd:Nat→Nat}(h:RR w w' hi lo m b1 b2 fh fl dd)(i x:Nat):RR w (w'.setCell ⟨w.heap.size+1+1+1+1,i,none⟩ (.int .u64 (x:Nat))) hi lo m b1 b2 fh fl (upd dd i x):=by
 have hg:=h.g1
 have hv:=h.g2
 rw[h.d.setCell,ag_set]
 exact ⟨h.m.set_other _ (by omega),h.r.set_other _ (by omega),h.d.set_same _,h.h.set_other _ (by omega),h.l.set_other _ (by omega),bSR h.b (by omega) _,hg,hv⟩
set_option maxRecDepth 100000 in
theorem rrest_raw(hi lo m x:Nat)(fh fl fm q o:Nat→Nat)(c1:Hid (∀ w,Calls Tryz.prog 114 #[U hi] w fun e w'=>e=.returned (A8 fh)∧Below w.heap.size w w'))(c2:Hid (∀ w,Calls Tryz.prog 114 #[U lo] w fun e w'=>e=.returned (A8 fl)∧Below w.heap.size w w'))(c3:Hid (∀ w,Calls Tryz.prog 114 #[U m] w fun e w'=>e=.returned (A8 fm)∧Below w.heap.size w w'))(c4:Hid (∀ dd:Nat→Nat,(∀ i,i<8→dd i=fl i∧dd (i+8)=fh i)→∀ w,Calls Tryz.prog 115 #[A16 dd,A8 fm] w fun e w'=>e=.returned (.tuple #[A16 q,A8 o])∧Below w.heap.size w w'))(c5:Hid (∀ w,Calls Tryz.prog 116 #[A8 o] w fun e w'=>e=.returned (U x)∧Below w.heap.size w w'))(w:World) :
  Calls Tryz.prog 77 #[U hi,U lo,U m] w fun e w'=>e=.returned (U x)∧Below w.heap.size w w':=by
 go_enter Tryz.func77,Tryz.ntmps77
 go_wp2_with fail
 refine (c1.out _).mono ?_
 rintro e w1 ⟨he,hb1⟩
 obtain ⟨ch,hch⟩:∃ c,c=(ag .u64 8 fh):=⟨_,rfl⟩
 have he':e=.returned (.agg ch):=by rw[he,hch]
 subst he'
 have R0:Hid (HRw w1 (w.heap.size+1) #[B (l0 lo),B (l1 lo),B (l2 lo),B (l3 lo)]∧HRw w1 (w.heap.size+1+1) #[B (l0 m),B (l1 m),B (l2 m),B (l3 m)]∧HRw w1 (w.heap.size+1+1+1) #[.int .u64 0,.int .u64 0,.int .u64 0,.int .u64 0]∧HRw w1 (w.heap.size+1+1+1+1) (ag .u64 16 (fun _=>0))∧Below w.heap.size w w1):=
  ⟨(HRw.old (HRw.old (HRw.old (HRw.last (by simp))))).below hb1,(HRw.old (HRw.old (HRw.last (by simp)))).below hb1,(HRw.old (HRw.last (by simp))).below hb1,(HRw.last (by simp)).below hb1,bCl (by (repeat (first | exact Below.refl _ _ | refine bAl ?_ _))) hb1⟩
 have hsz:ch.size=8:=by rw[hch];exact agS _ _ _
 have hsc:=rSv (P:=Tryz.prog) (⟨hch⟩:IsRow ch .u64 8 fh) (g:=w1.heap.size) 124 (by kernel_rfl) (StoreTo.last (w:=w1) (c:=#[.int .u64 0,.int .u64 0,.int .u64 0,.int .u64 0,.int .u64 0,.int .u64 0,.int .u64 0,.int .u64 0]) (t:=124) rfl rfl)
 have g0:=R0.out.1.cell 0
 have g1:=R0.out.1.cell 1
 have g2:=R0.out.1.cell 2
 have g3:=R0.out.1.cell 3
 simp at g0 g1 g2 g3
 have hq1:w.heap.size+1+1+1+1<w1.heap.size:=R0.out.2.2.2.1.lt
 have hq2:w.heap.size+1<w1.heap.size:=R0.out.1.lt
 clear hb1 he hch
 go_wp2_with fail
 refine (c2.out _).mono ?_
 rintro e w2 ⟨he,hb2⟩
 obtain ⟨cl,hcl⟩:∃ c,c=(ag .u64 8 fl):=⟨_,rfl⟩
 have he':e=.returned (.agg cl):=by rw[he,hcl]
 subst he'
 have F0:Hid (RR w (w2.alloc (Obj.cells (ag .u64 8 fl) 124)) hi lo m w1.heap.size w2.heap.size fh fl (fun _=>0)):=by
  obtain ⟨r1,r2,r3,r4,r5⟩:=R0.out
  have hk:HRw w2 w1.heap.size (ag .u64 8 fh):=(HRw.last (by simp)).below hb2
  exact ⟨((r2.old).below hb2).old,((r3.old).below hb2).old,((r4.old).below hb2).old,hk.old,HRw.last rfl,bAl (bCl (bAl r5 _) hb2) _,hq1,hk.lt⟩
 have hsz2:cl.size=8:=by rw[hcl];exact agS _ _ _
 have hsc2:=rSv (P:=Tryz.prog) (⟨hcl⟩:IsRow cl .u64 8 fl) (g:=w2.heap.size) 124 (by kernel_rfl) (StoreTo.last (w:=w2) (c:=#[.int .u64 0,.int .u64 0,.int .u64 0,.int .u64 0,.int .u64 0,.int .u64 0,.int .u64 0,.int .u64 0]) (t:=124) rfl rfl)
 clear hb2 he hcl R0 g0 g1 g2 g3 hsz hsc hq1 hq2
 go_wp2
 generalize w1.heap.size=b1 at *
 generalize w2.heap.size=b2 at *
 go_loopw [10] (fun i w'=>∃ (t:Nat) (dd:Nat→Nat),t≤8∧i=.int .i64 (t:Int)∧RR w w' hi lo m b1 b2 fh fl dd∧(∀ i,i<t→dd i=fl i∧dd (i+8)=fh i)) (fun i _=>8-(intOf i).toNat)
 case atStart=>exact ⟨0,fun _=>0,Nat.zero_le _,rfl,F0.out,fun i hi=>by omega⟩
 case round=>
  obtain ⟨t,dd,ht,rfl,hS,hA⟩:=hrel
  clear F0
  have KS:Hid _:=hS
  have KA:Hid _:=hA
  clear hA
  by_cases hlt:t<8
  ·have y1:=hS.l.cell t
   rw[agG,if_pos (by omega)] at y1
   have y2:=hS.d.cell t
   rw[agG,if_pos (by omega)] at y2
   have y3:=hS.d.frozen t
   clear hS
   go_upto_region 8 with fail
   have X1:=KS.out.put t (fl t)
   generalize wr.setCell ⟨w.heap.size+1+1+1+1,t,none⟩ (.int .u64 ((fl t:Nat):Int))=w5 at *
   have K5:Hid _:=X1
   clear y1 y2 y3 KS
   have y1:=X1.h.cell t
   rw[agG,if_pos (by omega)] at y1
   have y2:=X1.d.cell (t+8)
   rw[agG,if_pos (by omega)] at y2
   have y3:=X1.d.frozen (t+8)
   clear X1
   go_wp2
   go_roundw
   case rel=>
    refine ⟨t+1,upd (upd dd t (fl t)) (t+8) (fh t),by omega,by go_num,K5.out.put (t+8) (fh t),fun i hi=>?_⟩
    by_cases e:i=t
    ·subst e;exact ⟨by rw[uOt _ _ _ (by omega),upd_same],by rw[upd_same]⟩
    ·rw[uOt _ _ _ (by omega),uOt _ _ _ e,uOt _ _ _ (by omega),uOt _ _ _ (by omega)]
     exact KA.out i (by omega)
   case measure=>simp[intOf];omega
  ·have hte:t=8:=by omega
   subst hte
   clear hS
   go_wp2
   have c4':Hid (∀ w,Calls Tryz.prog 115 #[A16 dd,A8 fm] w fun e w'=>e=.returned (.tuple #[A16 q,A8 o])∧Below w.heap.size w w'):=c4.out dd KA.out
   obtain ⟨N0,hN0⟩:∃ n,n=wr.heap.size:=⟨_,rfl⟩
   have hN:w.heap.size+1+1+1+1<N0:=by rw[hN0];exact KS.out.d.lt
   refine wRv2 (by kernel_rfl) (by kernel_rfl) (by kernel_rfl) (CRR w N0 m dd fm q o) ?_ ?_ ?_
   ·refine ⟨KS.out.b.drew,by rw[hN0];exact Nat.le_refl _,KS.out.d,KS.out.m,KS.out.r,?_,?_,?_,?_,?_,?_,?_,?_,?_,?_,?_,?_⟩<;>(intro h;simp[Array.getD] at h)
   ·intro lz vs a' w' i o' hs ho hi hF cc
    have hin:i<11:=by have:=(Array.getElem?_eq_some_iff.1 ho).1;simpa using this
    have hcase:i=0∨i=1∨i=2∨i=3∨i=4∨i=5∨i=6∨i=7∨i=8∨i=9∨i=10:=by omega
    rcases hcase with rfl | rfl | rfl | rfl | rfl | rfl | rfl | rfl | rfl | rfl | rfl
    ·simp at ho
     subst ho
     have T:=dT lz 0
     have S:=dS lz 0
     exact wp_rowF 123 (.tmp 7) rfl (w.heap.size+1+1+1+1) ((hF.old (by kernel_rfl)).trans rfl) cc.R0 (agS _ _ _) Tryz.underlying123 (by kernel_rfl) ⟨_,rfl,⟨cc.bw,cc.ms,cc.R0,cc.R1,cc.R2,fun _=>rfl,fun h=>cc.c1 (T 1 (by decide) h),fun h=>cc.c2 (T 2 (by decide) h),fun h=>cc.c3 (T 3 (by decide) h),fun h=>cc.c4 (T 4 (by decide) h),fun h=>cc.c5 (T 5 (by decide) h),fun h=>cc.c6 (T 6 (by decide) h),fun h=>by obtain ⟨g',c',e',k1,k2,k3,k4⟩:=cc.c7 (T 7 (by decide) h);exact ⟨g',c',e',k1,k2,k3,fun h6=>k4 (T 9 (by decide) h6)⟩,fun h=>by obtain ⟨g',c',e',k1,k2,k3,k4⟩:=cc.c8 (T 8 (by decide) h);exact ⟨g',c',e',k1,k2,k3,fun h6=>k4 (T 10 (by decide) h6)⟩,fun h=>S 7 (cc.c9 (T 9 (by decide) h)),fun h=>S 8 (cc.c10 (T 10 (by decide) h)),fun h h'=>cc.ne7_8 (T 7 (by decide) h) (T 8 (by decide) h')⟩⟩
    ·simp at ho
     subst ho
     have T:=dT lz 1
     have S:=dS lz 1
     exact wp_rowF 24 (.tmp 5) rfl (w.heap.size+1+1) ((hF.old (by kernel_rfl)).trans rfl) cc.R1 rfl Tryz.underlying24 (by kernel_rfl) ⟨_,rfl,⟨cc.bw,cc.ms,cc.R0,cc.R1,cc.R2,fun h=>cc.c0 (T 0 (by decide) h),fun _=>rfl,fun h=>cc.c2 (T 2 (by decide) h),fun h=>cc.c3 (T 3 (by decide) h),fun h=>cc.c4 (T 4 (by decide) h),fun h=>cc.c5 (T 5 (by decide) h),fun h=>cc.c6 (T 6 (by decide) h),fun h=>by obtain ⟨g',c',e',k1,k2,k3,k4⟩:=cc.c7 (T 7 (by decide) h);exact ⟨g',c',e',k1,k2,k3,fun h6=>k4 (T 9 (by decide) h6)⟩,fun h=>by obtain ⟨g',c',e',k1,k2,k3,k4⟩:=cc.c8 (T 8 (by decide) h);exact ⟨g',c',e',k1,k2,k3,fun h6=>k4 (T 10 (by decide) h6)⟩,fun h=>S 7 (cc.c9 (T 9 (by decide) h)),fun h=>S 8 (cc.c10 (T 10 (by decide) h)),fun h h'=>cc.ne7_8 (T 7 (by decide) h) (T 8 (by decide) h')⟩⟩
    ·simp at ho
     subst ho
     have T:=dT lz 2
     have S:=dS lz 2
     have hv0:=((hF.new (t:=34) (i:=1) (by kernel_rfl) (by simp) (wDn (i:=2) (j:=1) (by kernel_rfl) hi)).trans (cc.c1 (wDn (i:=2) (j:=1) (by kernel_rfl) hi)))
     refine wp_callF (f:=114) (args:=#[U m]) (v:=A8 fm) (by simp[execOp_call_go,ev hv0,go_sem]) (c3.out w') ?_
     intro w'' hb''
     exact ⟨_,rfl,⟨cc.bw.trans (hb''.mono cc.bw.size),Nat.le_trans cc.ms hb''.size,cc.R0.below hb'',cc.R1.below hb'',cc.R2.below hb'',fun h=>cc.c0 (T 0 (by decide) h),fun h=>cc.c1 (T 1 (by decide) h),fun _=>rfl,fun h=>cc.c3 (T 3 (by decide) h),fun h=>cc.c4 (T 4 (by decide) h),fun h=>cc.c5 (T 5 (by decide) h),fun h=>cc.c6 (T 6 (by decide) h),fun h=>by obtain ⟨g',c',e',k1,k2,k3,k4⟩:=cc.c7 (T 7 (by decide) h);exact ⟨g',c',e',k1,k2.below hb'',k3,fun h6=>k4 (T 9 (by decide) h6)⟩,fun h=>by obtain ⟨g',c',e',k1,k2,k3,k4⟩:=cc.c8 (T 8 (by decide) h);exact ⟨g',c',e',k1,k2.below hb'',k3,fun h6=>k4 (T 10 (by decide) h6)⟩,fun h=>S 7 (cc.c9 (T 9 (by decide) h)),fun h=>S 8 (cc.c10 (T 10 (by decide) h)),fun h h'=>cc.ne7_8 (T 7 (by decide) h) (T 8 (by decide) h')⟩⟩
    ·simp at ho
     subst ho
     have T:=dT lz 3
     have S:=dS lz 3
     have hv0:=((hF.new (t:=33) (i:=0) (by kernel_rfl) (by simp) (wDn (i:=3) (j:=0) (by kernel_rfl) hi)).trans (cc.c0 (wDn (i:=3) (j:=0) (by kernel_rfl) hi)))
     have hv1:=((hF.new (t:=35) (i:=2) (by kernel_rfl) (by simp) (wDn (i:=3) (j:=2) (by kernel_rfl) hi)).trans (cc.c2 (wDn (i:=3) (j:=2) (by kernel_rfl) hi)))
     refine wp_callF (f:=115) (args:=#[A16 dd,A8 fm]) (v:=.tuple #[A16 q,A8 o]) (by simp[execOp_call_go,ev hv0,ev hv1,go_sem]) (c4'.out w') ?_
     intro w'' hb''
     exact ⟨_,rfl,⟨cc.bw.trans (hb''.mono cc.bw.size),Nat.le_trans cc.ms hb''.size,cc.R0.below hb'',cc.R1.below hb'',cc.R2.below hb'',fun h=>cc.c0 (T 0 (by decide) h),fun h=>cc.c1 (T 1 (by decide) h),fun h=>cc.c2 (T 2 (by decide) h),fun _=>rfl,fun h=>cc.c4 (T 4 (by decide) h),fun h=>cc.c5 (T 5 (by decide) h),fun h=>cc.c6 (T 6 (by decide) h),fun h=>by obtain ⟨g',c',e',k1,k2,k3,k4⟩:=cc.c7 (T 7 (by decide) h);exact ⟨g',c',e',k1,k2.below hb'',k3,fun h6=>k4 (T 9 (by decide) h6)⟩,fun h=>by obtain ⟨g',c',e',k1,k2,k3,k4⟩:=cc.c8 (T 8 (by decide) h);exact ⟨g',c',e',k1,k2.below hb'',k3,fun h6=>k4 (T 10 (by decide) h6)⟩,fun h=>S 7 (cc.c9 (T 9 (by decide) h)),fun h=>S 8 (cc.c10 (T 10 (by decide) h)),fun h h'=>cc.ne7_8 (T 7 (by decide) h) (T 8 (by decide) h')⟩⟩
    ·simp at ho
     subst ho
     have T:=dT lz 4
     have S:=dS lz 4
     have hv:=((hF.new (t:=36) (i:=3) (by kernel_rfl) (by simp) (wDn (i:=4) (j:=3) (by kernel_rfl) hi)).trans (cc.c3 (wDn (i:=4) (j:=3) (by kernel_rfl) hi)))
     exact wVF (v:=.tuple #[A16 q,A8 o]) (w1:=w') (by simp[execOp,go_sem,ev hv]) ⟨_,rfl,⟨cc.bw,cc.ms,cc.R0,cc.R1,cc.R2,fun h=>cc.c0 (T 0 (by decide) h),fun h=>cc.c1 (T 1 (by decide) h),fun h=>cc.c2 (T 2 (by decide) h),fun h=>cc.c3 (T 3 (by decide) h),fun _=>rfl,fun h=>cc.c5 (T 5 (by decide) h),fun h=>cc.c6 (T 6 (by decide) h),fun h=>by obtain ⟨g',c',e',k1,k2,k3,k4⟩:=cc.c7 (T 7 (by decide) h);exact ⟨g',c',e',k1,k2,k3,fun h6=>k4 (T 9 (by decide) h6)⟩,fun h=>by obtain ⟨g',c',e',k1,k2,k3,k4⟩:=cc.c8 (T 8 (by decide) h);exact ⟨g',c',e',k1,k2,k3,fun h6=>k4 (T 10 (by decide) h6)⟩,fun h=>S 7 (cc.c9 (T 9 (by decide) h)),fun h=>S 8 (cc.c10 (T 10 (by decide) h)),fun h h'=>cc.ne7_8 (T 7 (by decide) h) (T 8 (by decide) h')⟩⟩
    ·simp at ho
     subst ho
     have T:=dT lz 5
     have S:=dS lz 5
     have hv:=((hF.new (t:=32) (i:=4) (by kernel_rfl) (by simp) (wDn (i:=5) (j:=4) (by kernel_rfl) hi)).trans (cc.c4 (wDn (i:=5) (j:=4) (by kernel_rfl) hi)))
     exact wVF (v:=A16 q) (w1:=w') (by simp[execOp,go_sem,ev hv]) ⟨_,rfl,⟨cc.bw,cc.ms,cc.R0,cc.R1,cc.R2,fun h=>cc.c0 (T 0 (by decide) h),fun h=>cc.c1 (T 1 (by decide) h),fun h=>cc.c2 (T 2 (by decide) h),fun h=>cc.c3 (T 3 (by decide) h),fun h=>cc.c4 (T 4 (by decide) h),fun _=>rfl,fun h=>cc.c6 (T 6 (by decide) h),fun h=>by obtain ⟨g',c',e',k1,k2,k3,k4⟩:=cc.c7 (T 7 (by decide) h);exact ⟨g',c',e',k1,k2,k3,fun h6=>k4 (T 9 (by decide) h6)⟩,fun h=>by obtain ⟨g',c',e',k1,k2,k3,k4⟩:=cc.c8 (T 8 (by decide) h);exact ⟨g',c',e',k1,k2,k3,fun h6=>k4 (T 10 (by decide) h6)⟩,fun h=>S 7 (cc.c9 (T 9 (by decide) h)),fun h=>S 8 (cc.c10 (T 10 (by decide) h)),fun h h'=>cc.ne7_8 (T 7 (by decide) h) (T 8 (by decide) h')⟩⟩
    ·simp at ho
     subst ho
     have T:=dT lz 6
     have S:=dS lz 6
     have hv:=((hF.new (t:=32) (i:=4) (by kernel_rfl) (by simp) (wDn (i:=6) (j:=4) (by kernel_rfl) hi)).trans (cc.c4 (wDn (i:=6) (j:=4) (by kernel_rfl) hi)))
     exact wVF (v:=A8 o) (w1:=w') (by simp[execOp,go_sem,ev hv]) ⟨_,rfl,⟨cc.bw,cc.ms,cc.R0,cc.R1,cc.R2,fun h=>cc.c0 (T 0 (by decide) h),fun h=>cc.c1 (T 1 (by decide) h),fun h=>cc.c2 (T 2 (by decide) h),fun h=>cc.c3 (T 3 (by decide) h),fun h=>cc.c4 (T 4 (by decide) h),fun h=>cc.c5 (T 5 (by decide) h),fun _=>rfl,fun h=>by obtain ⟨g',c',e',k1,k2,k3,k4⟩:=cc.c7 (T 7 (by decide) h);exact ⟨g',c',e',k1,k2,k3,fun h6=>k4 (T 9 (by decide) h6)⟩,fun h=>by obtain ⟨g',c',e',k1,k2,k3,k4⟩:=cc.c8 (T 8 (by decide) h);exact ⟨g',c',e',k1,k2,k3,fun h6=>k4 (T 10 (by decide) h6)⟩,fun h=>S 7 (cc.c9 (T 9 (by decide) h)),fun h=>S 8 (cc.c10 (T 10 (by decide) h)),fun h h'=>cc.ne7_8 (T 7 (by decide) h) (T 8 (by decide) h')⟩⟩
    ·simp at ho
     subst ho
     have T:=dT lz 7
     have S:=dS lz 7
     have hun:¬ lz.getD 7 false=true:=fun h=>undone hi hs h
     exact wVF (v:=.pointer (some ⟨w'.heap.size,0,none⟩)) (w1:=w'.alloc (.cells #[.int .u64 0,.int .u64 0,.int .u64 0,.int .u64 0,.int .u64 0,.int .u64 0,.int .u64 0,.int .u64 0,.int .u64 0,.int .u64 0,.int .u64 0,.int .u64 0,.int .u64 0,.int .u64 0,.int .u64 0,.int .u64 0] 123)) (by simp[execOp,go_sem]) ⟨_,rfl,⟨bAl cc.bw _,by have:=cc.ms;simp;omega,cc.R0.old,cc.R1.old,cc.R2.old,fun h=>cc.c0 (T 0 (by decide) h),fun h=>cc.c1 (T 1 (by decide) h),fun h=>cc.c2 (T 2 (by decide) h),fun h=>cc.c3 (T 3 (by decide) h),fun h=>cc.c4 (T 4 (by decide) h),fun h=>cc.c5 (T 5 (by decide) h),fun h=>cc.c6 (T 6 (by decide) h),fun _=>⟨w'.heap.size,#[.int .u64 0,.int .u64 0,.int .u64 0,.int .u64 0,.int .u64 0,.int .u64 0,.int .u64 0,.int .u64 0,.int .u64 0,.int .u64 0,.int .u64 0,.int .u64 0,.int .u64 0,.int .u64 0,.int .u64 0,.int .u64 0],rfl,cc.ms,HRw.last rfl,rfl,fun h6=>absurd (cc.c9 (T 9 (by decide) h6)) hun⟩,fun h=>by obtain ⟨g',c',e',k1,k2,k3,k4⟩:=cc.c8 (T 8 (by decide) h);exact ⟨g',c',e',k1,k2.old,k3,fun h6=>k4 (T 10 (by decide) h6)⟩,fun h=>S 7 (cc.c9 (T 9 (by decide) h)),fun h=>S 8 (cc.c10 (T 10 (by decide) h)),fun _ h=>by obtain ⟨g',c',e',k1,k2,k3,k4⟩:=cc.c8 (T 8 (by decide) h);have:=k2.lt;show Value.pointer (some ⟨w'.heap.size,0,none⟩)≠vs 8;rw[e'];intro q;simp at q;try omega⟩⟩
    ·simp at ho
     subst ho
     have T:=dT lz 8
     have S:=dS lz 8
     have hun:¬ lz.getD 8 false=true:=fun h=>undone hi hs h
     exact wVF (v:=.pointer (some ⟨w'.heap.size,0,none⟩)) (w1:=w'.alloc (.cells #[.int .u64 0,.int .u64 0,.int .u64 0,.int .u64 0,.int .u64 0,.int .u64 0,.int .u64 0,.int .u64 0] 124)) (by simp[execOp,go_sem]) ⟨_,rfl,⟨bAl cc.bw _,by have:=cc.ms;simp;omega,cc.R0.old,cc.R1.old,cc.R2.old,fun h=>cc.c0 (T 0 (by decide) h),fun h=>cc.c1 (T 1 (by decide) h),fun h=>cc.c2 (T 2 (by decide) h),fun h=>cc.c3 (T 3 (by decide) h),fun h=>cc.c4 (T 4 (by decide) h),fun h=>cc.c5 (T 5 (by decide) h),fun h=>cc.c6 (T 6 (by decide) h),fun h=>by obtain ⟨g',c',e',k1,k2,k3,k4⟩:=cc.c7 (T 7 (by decide) h);exact ⟨g',c',e',k1,k2.old,k3,fun h6=>k4 (T 9 (by decide) h6)⟩,fun _=>⟨w'.heap.size,#[.int .u64 0,.int .u64 0,.int .u64 0,.int .u64 0,.int .u64 0,.int .u64 0,.int .u64 0,.int .u64 0],rfl,cc.ms,HRw.last rfl,rfl,fun h6=>absurd (cc.c10 (T 10 (by decide) h6)) hun⟩,fun h=>S 7 (cc.c9 (T 9 (by decide) h)),fun h=>S 8 (cc.c10 (T 10 (by decide) h)),fun h _=>by obtain ⟨g',c',e',k1,k2,k3,k4⟩:=cc.c7 (T 7 (by decide) h);have:=k2.lt;show vs 7≠Value.pointer (some ⟨w'.heap.size,0,none⟩);rw[e'];intro q;simp at q;try omega⟩⟩
    ·simp at ho
     subst ho
     have T:=dT lz 9
     have S:=dS lz 9
     have d4:=(wDn (i:=9) (j:=7) (by kernel_rfl) hi)
     obtain ⟨g,c,e,h1,h2,h3,h4⟩:=cc.c7 d4
     have hx:=(hF.new (t:=11) (i:=7) (by kernel_rfl) (by simp) d4).trans e
     have hv:=((hF.new (t:=37) (i:=5) (by kernel_rfl) (by simp) (wDn (i:=9) (j:=5) (by kernel_rfl) hi)).trans (cc.c5 (wDn (i:=9) (j:=5) (by kernel_rfl) hi)))
     exact wp_rowS 123 (.tmp 11) (.tmp 37) rfl g (c':=(ag .u64 16 q)) hx hv h2 h3 (agS _ _ _) (ag_one _ _ _) (by kernel_rfl) ⟨_,rfl,⟨bSR cc.bw (by omega) _,by rw[sSR];exact cc.ms,cc.R0.set_other _ (by omega),cc.R1.set_other _ (by omega),cc.R2.set_other _ (by omega),fun h=>cc.c0 (T 0 (by decide) h),fun h=>cc.c1 (T 1 (by decide) h),fun h=>cc.c2 (T 2 (by decide) h),fun h=>cc.c3 (T 3 (by decide) h),fun h=>cc.c4 (T 4 (by decide) h),fun h=>cc.c5 (T 5 (by decide) h),fun h=>cc.c6 (T 6 (by decide) h),fun h=>⟨g,_,e,h1,h2.set_same _,(agS _ _ _),fun _=>rfl⟩,fun h=>by obtain ⟨g',c',e',k1,k2,k3,k4⟩:=cc.c8 (T 8 (by decide) h);exact ⟨g',c',e',k1,k2.set_other _ (by rintro rfl;exact cc.ne7_8 d4 (T 8 (by decide) h) (by rw[e,e'])),k3,fun h6=>k4 (T 10 (by decide) h6)⟩,fun _=>S 7 d4,fun h=>S 8 (cc.c10 (T 10 (by decide) h)),fun h h'=>cc.ne7_8 (T 7 (by decide) h) (T 8 (by decide) h')⟩⟩
    ·simp at ho
     subst ho
     have T:=dT lz 10
     have S:=dS lz 10
     have d4:=(wDn (i:=10) (j:=8) (by kernel_rfl) hi)
     obtain ⟨g,c,e,h1,h2,h3,h4⟩:=cc.c8 d4
     have hx:=(hF.new (t:=12) (i:=8) (by kernel_rfl) (by simp) d4).trans e
     have hv:=((hF.new (t:=38) (i:=6) (by kernel_rfl) (by simp) (wDn (i:=10) (j:=6) (by kernel_rfl) hi)).trans (cc.c6 (wDn (i:=10) (j:=6) (by kernel_rfl) hi)))
     exact wp_rowS 124 (.tmp 12) (.tmp 38) rfl g (c':=(ag .u64 8 o)) hx hv h2 h3 (agS _ _ _) (ag_one _ _ _) (by kernel_rfl) ⟨_,rfl,⟨bSR cc.bw (by omega) _,by rw[sSR];exact cc.ms,cc.R0.set_other _ (by omega),cc.R1.set_other _ (by omega),cc.R2.set_other _ (by omega),fun h=>cc.c0 (T 0 (by decide) h),fun h=>cc.c1 (T 1 (by decide) h),fun h=>cc.c2 (T 2 (by decide) h),fun h=>cc.c3 (T 3 (by decide) h),fun h=>cc.c4 (T 4 (by decide) h),fun h=>cc.c5 (T 5 (by decide) h),fun h=>cc.c6 (T 6 (by decide) h),fun h=>by obtain ⟨g',c',e',k1,k2,k3,k4⟩:=cc.c7 (T 7 (by decide) h);exact ⟨g',c',e',k1,k2.set_other _ (by rintro rfl;exact cc.ne7_8 (T 7 (by decide) h) d4 (by rw[e,e'])),k3,fun h6=>k4 (T 9 (by decide) h6)⟩,fun h=>⟨g,_,e,h1,h2.set_same _,(agS _ _ _),fun _=>rfl⟩,fun h=>S 7 (cc.c9 (T 9 (by decide) h)),fun _=>S 8 d4,fun h h'=>cc.ne7_8 (T 7 (by decide) h) (T 8 (by decide) h')⟩⟩
   ·intro lz vs a' w' hd hF cc
    have e:a'=({ tmps:=#[U hi,U lo,U m,.pointer (some ⟨w.heap.size,0,none⟩),.pointer (some ⟨w.heap.size+1,0,none⟩),.pointer (some ⟨w.heap.size+1+1,0,none⟩),.pointer (some ⟨w.heap.size+1+1+1,0,none⟩),.pointer (some ⟨w.heap.size+1+1+1+1,0,none⟩),.pointer (some ⟨b1,0,none⟩),.pointer (some ⟨b2,0,none⟩),.int .i64 8,vs 7,vs 8,.agg #[B (l0 hi),B (l1 hi),B (l2 hi),B (l3 hi)],.agg ch,.agg #[B (l0 lo),B (l1 lo),B (l2 lo),B (l3 lo)],.agg cl,.int .i64 8,.bool false,u19,u20,u21,u22,u23,u24,u25,u26,u27,u28,u29,u30,u31,vs 4,vs 0,vs 1,vs 2,vs 3,vs 5,vs 6,undef,undef],defers:=[] }:Act):=(hF.all hd).trans (by kernel_rfl)
    subst e
    obtain ⟨g,c,e4,h1,h2,h3,h4⟩:=cc.c8 (hd 8 (by simp))
    rw[h4 (hd 10 (by simp))] at h2
    have HH:Hid (HRw w' g (ag .u64 8 o)∧HRw w' (w.heap.size+1+1+1) #[.int .u64 0,.int .u64 0,.int .u64 0,.int .u64 0]∧Below w.heap.size w w'):=⟨h2,cc.R2,cc.bw⟩
    rw[e4]
    clear h1 h2 h3 h4 cc hd hF e4
    go_upto_region 10 with fail
    refine wp_region_lit ?_
    refine wpList_rload' rfl 124 (.tmp 12) rfl g rfl .u64 8 o HH.out.1 Tryz.underlying124 (by kernel_rfl) ?_
    go_wp2_with fail
    refine (c5.out _).mono ?_
    rintro e w7 ⟨rfl,hb7⟩
    have R7:HRw w7 (w.heap.size+1+1+1) #[.int .u64 0,.int .u64 0,.int .u64 0,.int .u64 0]:=HH.out.2.1.below hb7
    have B7:Hid (Below w.heap.size w w7):=bCl HH.out.2.2 hb7
    have H7:Hid (HRw w7 (w.heap.size+1+1+1) #[.int .u64 0,.int .u64 0,.int .u64 0,.int .u64 0]):=R7
    have g0:=R7.cell 0
    have g1:=R7.cell 1
    have g2:=R7.cell 2
    have g3:=R7.cell 3
    simp at g0 g1 g2 g3
    have gz0:=R7.frozen 0
    have gz1:=R7.frozen 1
    have gz2:=R7.frozen 2
    have gz3:=R7.frozen 3
    have gq:=R7.lt
    clear R7 hb7 HH
    go_wp2
    have R8:HRw w7 (w.heap.size+1+1+1) #[.int .u64 0,.int .u64 0,.int .u64 0,.int .u64 0]:=H7.out
    rw[set4 R8 rfl]
    exact bodyPost_ret (v:=U x) (rC1 (p:=6) (ty:=24) rfl (g:=w.heap.size+1+1+1) rfl (R8.set_same _) rfl Tryz.underlying24 (by kernel_rfl)) rfl ⟨rfl,bSR B7.out (by omega) _⟩
end
section
open Go.RowKit Go.Sort
structure CDV (w:World) (N0:Nat) (b:Nat) (dd fb q o:Nat→Nat) (lz:Array Bool) (vs:Nat→Value) (w':World):Prop where
 bw:Below w.heap.size w w'
 ms:N0≤w'.heap.size
 R0:HRw w' (w.heap.size+1+1+1+1) (ag .u64 16 dd)
 R1:HRw w' (w.heap.size+1) #[B (l0 b),B (l1 b),B (l2 b),B (l3 b)]
 R2:HRw w' (w.heap.size+1+1) #[.int .u64 0,.int .u64 0,.int .u64 0,.int .u64 0]
 R3:HRw w' (w.heap.size+1+1+1) #[.int .u64 0,.int .u64 0,.int .u64 0,.int .u64 0]
 c0:lz.getD 0 false=true→vs 0=A16 dd
 c1:lz.getD 1 false=true→vs 1=U b
 c2:lz.getD 2 false=true→vs 2=A8 fb
 c3:lz.getD 3 false=true→vs 3=.tuple #[A16 q,A8 o]
 c4:lz.getD 4 false=true→vs 4=.tuple #[A16 q,A8 o]
 c5:lz.getD 5 false=true→vs 5=A16 q
 c6:lz.getD 6 false=true→vs 6=A8 o
 c7:lz.getD 7 false=true→∃ g c,vs 7=.pointer (some ⟨g,0,none⟩)∧N0≤g∧HRw w' g c∧c.size=16∧(lz.getD 9 false=true→c=(ag .u64 16 q))
 c8:lz.getD 8 false=true→∃ g c,vs 8=.pointer (some ⟨g,0,none⟩)∧N0≤g∧HRw w' g c∧c.size=8∧(lz.getD 10 false=true→c=(ag .u64 8 o))
 c9:lz.getD 9 false=true→lz.getD 7 false=true
 c10:lz.getD 10 false=true→lz.getD 8 false=true
 ne7_8:lz.getD 7 false=true→lz.getD 8 false=true→vs 7≠vs 8
structure CDW (w:World) (N0:Nat) (l x bl bo:Nat) (o:Nat→Nat) (lz:Array Bool) (vs:Nat→Value) (w':World):Prop where
 bw:Below w.heap.size w w'
 ms:N0≤w'.heap.size
 R0:HRw w' (bl) #[B (l0 l),B (l1 l),B (l2 l),B (l3 l)]
 R1:HRw w' (bo) (ag .u64 8 o)
 c0:lz.getD 0 false=true→vs 0=U l
 c1:lz.getD 1 false=true→vs 1=A8 o
 c2:lz.getD 2 false=true→vs 2=U x
 c3:∃ c,HRw w' (w.heap.size+1+1) c∧c.size=4∧(lz.getD 3 false=true→c=#[B (l0 l),B (l1 l),B (l2 l),B (l3 l)])
 c4:∃ c,HRw w' (w.heap.size+1+1+1) c∧c.size=4∧(lz.getD 4 false=true→c=#[B (l0 x),B (l1 x),B (l2 x),B (l3 x)])
structure DR (w w':World) (b b1:Nat) (fa dd:Nat→Nat):Prop where
 m:HRw w' (w.heap.size+1) #[B (l0 b),B (l1 b),B (l2 b),B (l3 b)]
 r:HRw w' (w.heap.size+1+1) #[.int .u64 0,.int .u64 0,.int .u64 0,.int .u64 0]
 s:HRw w' (w.heap.size+1+1+1) #[.int .u64 0,.int .u64 0,.int .u64 0,.int .u64 0]
 d:HRw w' (w.heap.size+1+1+1+1) (ag .u64 16 dd)
 h:HRw w' b1 (ag .u64 8 fa)
 bw:Below w.heap.size w w'
 g1:w.heap.size+1+1+1+1<b1
theorem DR.put{w w':World}{b b1:Nat}{fa dd:Nat→Nat}(h:DR w w' b b1 fa dd)(i x:Nat):DR w (w'.setCell ⟨w.heap.size+1+1+1+1,i,none⟩ (.int .u64 (x:Nat))) b b1 fa (upd dd i x):=by
 have hg:=h.g1
 rw[h.d.setCell,ag_set]
 exact ⟨h.m.set_other _ (by omega),h.r.set_other _ (by omega),h.s.set_other _ (by omega),h.d.set_same _,h.h.set_other _ (by omega),bSR h.bw (by omega) _,hg⟩
set_option maxRecDepth 100000 in
theorem rdiv_raw(a b h l x:Nat)(fa fb q o:Nat→Nat)(c1:Hid (∀ w,Calls Tryz.prog 114 #[U a] w fun e w'=>e=.returned (A8 fa)∧Below w.heap.size w w'))(c3:Hid (∀ w,Calls Tryz.prog 114 #[U b] w fun e w'=>e=.returned (A8 fb)∧Below w.heap.size w w'))(c4:Hid (∀ dd:Nat→Nat,(∀ i,i<8→dd i=fa i)→(∀ i,8≤i→dd i=0)→∀ w,Calls Tryz.prog 115 #[A16 dd,A8 fb] w fun e w'=>e=.returned (.tuple #[A16 q,A8 o])∧Below w.heap.size w w'))(cp:Hid (∀ w,Calls Tryz.prog 121 #[A16 q] w fun e w'=>e=.returned (.tuple #[U h,U l])∧Below w.heap.size w w'))(c5:Hid (∀ w,Calls Tryz.prog 116 #[A8 o] w fun e w'=>e=.returned (U x)∧Below w.heap.size w w'))(w:World) :
  Calls Tryz.prog 84 #[U a,U b] w fun e w'=>e=.returned (.tuple #[U l,U x])∧Below w.heap.size w w':=by
 go_enter Tryz.func84,Tryz.ntmps84
 go_wp2_with fail
 refine (c1.out _).mono ?_
 rintro e w1 ⟨he,hb1⟩
 obtain ⟨ch,hch⟩:∃ c,c=(ag .u64 8 fa):=⟨_,rfl⟩
 have he':e=.returned (.agg ch):=by rw[he,hch]
 subst he'
 have F0:Hid (DR w (w1.alloc (Obj.cells (ag .u64 8 fa) 124)) b w1.heap.size fa (fun _=>0)):=by
  exact ⟨((HRw.old (HRw.old (HRw.old (HRw.last (by simp))))).below hb1).old,((HRw.old (HRw.old (HRw.last (by simp)))).below hb1).old,((HRw.old (HRw.last (by simp))).below hb1).old,((HRw.last (by simp)).below hb1).old,HRw.last rfl,bAl (bCl (by (repeat (first | exact Below.refl _ _ | refine bAl ?_ _))) hb1) _,by have:=hb1.size;simp at this;omega⟩
 have hsz:ch.size=8:=by rw[hch];exact agS _ _ _
 have hsc:=rSv (P:=Tryz.prog) (⟨hch⟩:IsRow ch .u64 8 fa) (g:=w1.heap.size) 124 (by kernel_rfl) (StoreTo.last (w:=w1) (c:=#[.int .u64 0,.int .u64 0,.int .u64 0,.int .u64 0,.int .u64 0,.int .u64 0,.int .u64 0,.int .u64 0]) (t:=124) rfl rfl)
 clear hb1 he hch
 go_wp2
 generalize w1.heap.size=b1 at *
 go_loopw [8] (fun i w'=>∃ (t:Nat) (dd:Nat→Nat),t≤8∧i=.int .i64 (t:Int)∧DR w w' b b1 fa dd∧(∀ i,i<t→dd i=fa i)∧(∀ i,t≤i→dd i=0)) (fun i _=>8-(intOf i).toNat)
 case atStart=>exact ⟨0,fun _=>0,Nat.zero_le _,rfl,F0.out,fun i hi=>by omega,fun _ _=>rfl⟩
 case round=>
  obtain ⟨t,dd,ht,rfl,hS,hA,hB⟩:=hrel
  clear F0
  have KS:Hid _:=hS
  have KA:Hid _:=hA
  have KB:Hid _:=hB
  clear hA hB
  by_cases hlt:t<8
  ·have y1:=hS.h.cell t
   rw[agG,if_pos (by omega)] at y1
   have y2:=hS.d.cell t
   rw[agG,if_pos (by omega)] at y2
   have y3:=hS.d.frozen t
   clear hS
   go_wp2
   go_roundw
   case rel=>
    refine ⟨t+1,upd dd t (fa t),by omega,by go_num,KS.out.put t (fa t),fun i hi=>?_,fun i hi=>?_⟩
    ·by_cases e:i=t
     ·subst e;rw[upd_same]
     ·rw[uOt _ _ _ e];exact KA.out i (by omega)
    ·rw[uOt _ _ _ (by omega)];exact KB.out i (by omega)
   case measure=>simp[intOf];omega
  ·have hte:t=8:=by omega
   subst hte
   clear hS
   go_wp2
   have c4':Hid (∀ w,Calls Tryz.prog 115 #[A16 dd,A8 fb] w fun e w'=>e=.returned (.tuple #[A16 q,A8 o])∧Below w.heap.size w w'):=c4.out dd KA.out KB.out
   obtain ⟨N0,hN0⟩:∃ n,n=wr.heap.size:=⟨_,rfl⟩
   have hN:w.heap.size+1+1+1+1<N0:=by rw[hN0];exact KS.out.d.lt
   refine wRv2 (by kernel_rfl) (by kernel_rfl) (by kernel_rfl) (CDV w N0 b dd fb q o) ?_ ?_ ?_
   ·refine ⟨KS.out.bw.drew,by rw[hN0];exact Nat.le_refl _,KS.out.d,KS.out.m,KS.out.r,KS.out.s,?_,?_,?_,?_,?_,?_,?_,?_,?_,?_,?_,?_⟩<;>(intro h;simp[Array.getD] at h)
   ·intro lz vs a' w' i o' hs ho hi hF cc
    have hin:i<11:=by have:=(Array.getElem?_eq_some_iff.1 ho).1;simpa using this
    have hcase:i=0∨i=1∨i=2∨i=3∨i=4∨i=5∨i=6∨i=7∨i=8∨i=9∨i=10:=by omega
    rcases hcase with rfl | rfl | rfl | rfl | rfl | rfl | rfl | rfl | rfl | rfl | rfl
    ·simp at ho
     subst ho
     have T:=dT lz 0
     have S:=dS lz 0
     exact wp_rowF 123 (.tmp 6) rfl (w.heap.size+1+1+1+1) ((hF.old (by kernel_rfl)).trans rfl) cc.R0 (agS _ _ _) Tryz.underlying123 (by kernel_rfl) ⟨_,rfl,⟨cc.bw,cc.ms,cc.R0,cc.R1,cc.R2,cc.R3,fun _=>rfl,fun h=>cc.c1 (T 1 (by decide) h),fun h=>cc.c2 (T 2 (by decide) h),fun h=>cc.c3 (T 3 (by decide) h),fun h=>cc.c4 (T 4 (by decide) h),fun h=>cc.c5 (T 5 (by decide) h),fun h=>cc.c6 (T 6 (by decide) h),fun h=>by obtain ⟨g',c',e',k1,k2,k3,k4⟩:=cc.c7 (T 7 (by decide) h);exact ⟨g',c',e',k1,k2,k3,fun h6=>k4 (T 9 (by decide) h6)⟩,fun h=>by obtain ⟨g',c',e',k1,k2,k3,k4⟩:=cc.c8 (T 8 (by decide) h);exact ⟨g',c',e',k1,k2,k3,fun h6=>k4 (T 10 (by decide) h6)⟩,fun h=>S 7 (cc.c9 (T 9 (by decide) h)),fun h=>S 8 (cc.c10 (T 10 (by decide) h)),fun h h'=>cc.ne7_8 (T 7 (by decide) h) (T 8 (by decide) h')⟩⟩
    ·simp at ho
     subst ho
     have T:=dT lz 1
     have S:=dS lz 1
     exact wp_rowF 24 (.tmp 3) rfl (w.heap.size+1) ((hF.old (by kernel_rfl)).trans rfl) cc.R1 rfl Tryz.underlying24 (by kernel_rfl) ⟨_,rfl,⟨cc.bw,cc.ms,cc.R0,cc.R1,cc.R2,cc.R3,fun h=>cc.c0 (T 0 (by decide) h),fun _=>rfl,fun h=>cc.c2 (T 2 (by decide) h),fun h=>cc.c3 (T 3 (by decide) h),fun h=>cc.c4 (T 4 (by decide) h),fun h=>cc.c5 (T 5 (by decide) h),fun h=>cc.c6 (T 6 (by decide) h),fun h=>by obtain ⟨g',c',e',k1,k2,k3,k4⟩:=cc.c7 (T 7 (by decide) h);exact ⟨g',c',e',k1,k2,k3,fun h6=>k4 (T 9 (by decide) h6)⟩,fun h=>by obtain ⟨g',c',e',k1,k2,k3,k4⟩:=cc.c8 (T 8 (by decide) h);exact ⟨g',c',e',k1,k2,k3,fun h6=>k4 (T 10 (by decide) h6)⟩,fun h=>S 7 (cc.c9 (T 9 (by decide) h)),fun h=>S 8 (cc.c10 (T 10 (by decide) h)),fun h h'=>cc.ne7_8 (T 7 (by decide) h) (T 8 (by decide) h')⟩⟩
    ·simp at ho
     subst ho
     have T:=dT lz 2
     have S:=dS lz 2
     have hv0:=((hF.new (t:=26) (i:=1) (by kernel_rfl) (by simp) (wDn (i:=2) (j:=1) (by kernel_rfl) hi)).trans (cc.c1 (wDn (i:=2) (j:=1) (by kernel_rfl) hi)))
     refine wp_callF (f:=114) (args:=#[U b]) (v:=A8 fb) (by simp[execOp_call_go,ev hv0,go_sem]) (c3.out w') ?_
     intro w'' hb''
     exact ⟨_,rfl,⟨cc.bw.trans (hb''.mono cc.bw.size),Nat.le_trans cc.ms hb''.size,cc.R0.below hb'',cc.R1.below hb'',cc.R2.below hb'',cc.R3.below hb'',fun h=>cc.c0 (T 0 (by decide) h),fun h=>cc.c1 (T 1 (by decide) h),fun _=>rfl,fun h=>cc.c3 (T 3 (by decide) h),fun h=>cc.c4 (T 4 (by decide) h),fun h=>cc.c5 (T 5 (by decide) h),fun h=>cc.c6 (T 6 (by decide) h),fun h=>by obtain ⟨g',c',e',k1,k2,k3,k4⟩:=cc.c7 (T 7 (by decide) h);exact ⟨g',c',e',k1,k2.below hb'',k3,fun h6=>k4 (T 9 (by decide) h6)⟩,fun h=>by obtain ⟨g',c',e',k1,k2,k3,k4⟩:=cc.c8 (T 8 (by decide) h);exact ⟨g',c',e',k1,k2.below hb'',k3,fun h6=>k4 (T 10 (by decide) h6)⟩,fun h=>S 7 (cc.c9 (T 9 (by decide) h)),fun h=>S 8 (cc.c10 (T 10 (by decide) h)),fun h h'=>cc.ne7_8 (T 7 (by decide) h) (T 8 (by decide) h')⟩⟩
    ·simp at ho
     subst ho
     have T:=dT lz 3
     have S:=dS lz 3
     have hv0:=((hF.new (t:=25) (i:=0) (by kernel_rfl) (by simp) (wDn (i:=3) (j:=0) (by kernel_rfl) hi)).trans (cc.c0 (wDn (i:=3) (j:=0) (by kernel_rfl) hi)))
     have hv1:=((hF.new (t:=27) (i:=2) (by kernel_rfl) (by simp) (wDn (i:=3) (j:=2) (by kernel_rfl) hi)).trans (cc.c2 (wDn (i:=3) (j:=2) (by kernel_rfl) hi)))
     refine wp_callF (f:=115) (args:=#[A16 dd,A8 fb]) (v:=.tuple #[A16 q,A8 o]) (by simp[execOp_call_go,ev hv0,ev hv1,go_sem]) (c4'.out w') ?_
     intro w'' hb''
     exact ⟨_,rfl,⟨cc.bw.trans (hb''.mono cc.bw.size),Nat.le_trans cc.ms hb''.size,cc.R0.below hb'',cc.R1.below hb'',cc.R2.below hb'',cc.R3.below hb'',fun h=>cc.c0 (T 0 (by decide) h),fun h=>cc.c1 (T 1 (by decide) h),fun h=>cc.c2 (T 2 (by decide) h),fun _=>rfl,fun h=>cc.c4 (T 4 (by decide) h),fun h=>cc.c5 (T 5 (by decide) h),fun h=>cc.c6 (T 6 (by decide) h),fun h=>by obtain ⟨g',c',e',k1,k2,k3,k4⟩:=cc.c7 (T 7 (by decide) h);exact ⟨g',c',e',k1,k2.below hb'',k3,fun h6=>k4 (T 9 (by decide) h6)⟩,fun h=>by obtain ⟨g',c',e',k1,k2,k3,k4⟩:=cc.c8 (T 8 (by decide) h);exact ⟨g',c',e',k1,k2.below hb'',k3,fun h6=>k4 (T 10 (by decide) h6)⟩,fun h=>S 7 (cc.c9 (T 9 (by decide) h)),fun h=>S 8 (cc.c10 (T 10 (by decide) h)),fun h h'=>cc.ne7_8 (T 7 (by decide) h) (T 8 (by decide) h')⟩⟩
    ·simp at ho
     subst ho
     have T:=dT lz 4
     have S:=dS lz 4
     have hv:=((hF.new (t:=28) (i:=3) (by kernel_rfl) (by simp) (wDn (i:=4) (j:=3) (by kernel_rfl) hi)).trans (cc.c3 (wDn (i:=4) (j:=3) (by kernel_rfl) hi)))
     exact wVF (v:=.tuple #[A16 q,A8 o]) (w1:=w') (by simp[execOp,go_sem,ev hv]) ⟨_,rfl,⟨cc.bw,cc.ms,cc.R0,cc.R1,cc.R2,cc.R3,fun h=>cc.c0 (T 0 (by decide) h),fun h=>cc.c1 (T 1 (by decide) h),fun h=>cc.c2 (T 2 (by decide) h),fun h=>cc.c3 (T 3 (by decide) h),fun _=>rfl,fun h=>cc.c5 (T 5 (by decide) h),fun h=>cc.c6 (T 6 (by decide) h),fun h=>by obtain ⟨g',c',e',k1,k2,k3,k4⟩:=cc.c7 (T 7 (by decide) h);exact ⟨g',c',e',k1,k2,k3,fun h6=>k4 (T 9 (by decide) h6)⟩,fun h=>by obtain ⟨g',c',e',k1,k2,k3,k4⟩:=cc.c8 (T 8 (by decide) h);exact ⟨g',c',e',k1,k2,k3,fun h6=>k4 (T 10 (by decide) h6)⟩,fun h=>S 7 (cc.c9 (T 9 (by decide) h)),fun h=>S 8 (cc.c10 (T 10 (by decide) h)),fun h h'=>cc.ne7_8 (T 7 (by decide) h) (T 8 (by decide) h')⟩⟩
    ·simp at ho
     subst ho
     have T:=dT lz 5
     have S:=dS lz 5
     have hv:=((hF.new (t:=24) (i:=4) (by kernel_rfl) (by simp) (wDn (i:=5) (j:=4) (by kernel_rfl) hi)).trans (cc.c4 (wDn (i:=5) (j:=4) (by kernel_rfl) hi)))
     exact wVF (v:=A16 q) (w1:=w') (by simp[execOp,go_sem,ev hv]) ⟨_,rfl,⟨cc.bw,cc.ms,cc.R0,cc.R1,cc.R2,cc.R3,fun h=>cc.c0 (T 0 (by decide) h),fun h=>cc.c1 (T 1 (by decide) h),fun h=>cc.c2 (T 2 (by decide) h),fun h=>cc.c3 (T 3 (by decide) h),fun h=>cc.c4 (T 4 (by decide) h),fun _=>rfl,fun h=>cc.c6 (T 6 (by decide) h),fun h=>by obtain ⟨g',c',e',k1,k2,k3,k4⟩:=cc.c7 (T 7 (by decide) h);exact ⟨g',c',e',k1,k2,k3,fun h6=>k4 (T 9 (by decide) h6)⟩,fun h=>by obtain ⟨g',c',e',k1,k2,k3,k4⟩:=cc.c8 (T 8 (by decide) h);exact ⟨g',c',e',k1,k2,k3,fun h6=>k4 (T 10 (by decide) h6)⟩,fun h=>S 7 (cc.c9 (T 9 (by decide) h)),fun h=>S 8 (cc.c10 (T 10 (by decide) h)),fun h h'=>cc.ne7_8 (T 7 (by decide) h) (T 8 (by decide) h')⟩⟩
    ·simp at ho
     subst ho
     have T:=dT lz 6
     have S:=dS lz 6
     have hv:=((hF.new (t:=24) (i:=4) (by kernel_rfl) (by simp) (wDn (i:=6) (j:=4) (by kernel_rfl) hi)).trans (cc.c4 (wDn (i:=6) (j:=4) (by kernel_rfl) hi)))
     exact wVF (v:=A8 o) (w1:=w') (by simp[execOp,go_sem,ev hv]) ⟨_,rfl,⟨cc.bw,cc.ms,cc.R0,cc.R1,cc.R2,cc.R3,fun h=>cc.c0 (T 0 (by decide) h),fun h=>cc.c1 (T 1 (by decide) h),fun h=>cc.c2 (T 2 (by decide) h),fun h=>cc.c3 (T 3 (by decide) h),fun h=>cc.c4 (T 4 (by decide) h),fun h=>cc.c5 (T 5 (by decide) h),fun _=>rfl,fun h=>by obtain ⟨g',c',e',k1,k2,k3,k4⟩:=cc.c7 (T 7 (by decide) h);exact ⟨g',c',e',k1,k2,k3,fun h6=>k4 (T 9 (by decide) h6)⟩,fun h=>by obtain ⟨g',c',e',k1,k2,k3,k4⟩:=cc.c8 (T 8 (by decide) h);exact ⟨g',c',e',k1,k2,k3,fun h6=>k4 (T 10 (by decide) h6)⟩,fun h=>S 7 (cc.c9 (T 9 (by decide) h)),fun h=>S 8 (cc.c10 (T 10 (by decide) h)),fun h h'=>cc.ne7_8 (T 7 (by decide) h) (T 8 (by decide) h')⟩⟩
    ·simp at ho
     subst ho
     have T:=dT lz 7
     have S:=dS lz 7
     have hun:¬ lz.getD 7 false=true:=fun h=>undone hi hs h
     exact wVF (v:=.pointer (some ⟨w'.heap.size,0,none⟩)) (w1:=w'.alloc (.cells #[.int .u64 0,.int .u64 0,.int .u64 0,.int .u64 0,.int .u64 0,.int .u64 0,.int .u64 0,.int .u64 0,.int .u64 0,.int .u64 0,.int .u64 0,.int .u64 0,.int .u64 0,.int .u64 0,.int .u64 0,.int .u64 0] 123)) (by simp[execOp,go_sem]) ⟨_,rfl,⟨bAl cc.bw _,by have:=cc.ms;simp;omega,cc.R0.old,cc.R1.old,cc.R2.old,cc.R3.old,fun h=>cc.c0 (T 0 (by decide) h),fun h=>cc.c1 (T 1 (by decide) h),fun h=>cc.c2 (T 2 (by decide) h),fun h=>cc.c3 (T 3 (by decide) h),fun h=>cc.c4 (T 4 (by decide) h),fun h=>cc.c5 (T 5 (by decide) h),fun h=>cc.c6 (T 6 (by decide) h),fun _=>⟨w'.heap.size,#[.int .u64 0,.int .u64 0,.int .u64 0,.int .u64 0,.int .u64 0,.int .u64 0,.int .u64 0,.int .u64 0,.int .u64 0,.int .u64 0,.int .u64 0,.int .u64 0,.int .u64 0,.int .u64 0,.int .u64 0,.int .u64 0],rfl,cc.ms,HRw.last rfl,rfl,fun h6=>absurd (cc.c9 (T 9 (by decide) h6)) hun⟩,fun h=>by obtain ⟨g',c',e',k1,k2,k3,k4⟩:=cc.c8 (T 8 (by decide) h);exact ⟨g',c',e',k1,k2.old,k3,fun h6=>k4 (T 10 (by decide) h6)⟩,fun h=>S 7 (cc.c9 (T 9 (by decide) h)),fun h=>S 8 (cc.c10 (T 10 (by decide) h)),fun _ h=>by obtain ⟨g',c',e',k1,k2,k3,k4⟩:=cc.c8 (T 8 (by decide) h);have:=k2.lt;show Value.pointer (some ⟨w'.heap.size,0,none⟩)≠vs 8;rw[e'];intro q;simp at q;try omega⟩⟩
    ·simp at ho
     subst ho
     have T:=dT lz 8
     have S:=dS lz 8
     have hun:¬ lz.getD 8 false=true:=fun h=>undone hi hs h
     exact wVF (v:=.pointer (some ⟨w'.heap.size,0,none⟩)) (w1:=w'.alloc (.cells #[.int .u64 0,.int .u64 0,.int .u64 0,.int .u64 0,.int .u64 0,.int .u64 0,.int .u64 0,.int .u64 0] 124)) (by simp[execOp,go_sem]) ⟨_,rfl,⟨bAl cc.bw _,by have:=cc.ms;simp;omega,cc.R0.old,cc.R1.old,cc.R2.old,cc.R3.old,fun h=>cc.c0 (T 0 (by decide) h),fun h=>cc.c1 (T 1 (by decide) h),fun h=>cc.c2 (T 2 (by decide) h),fun h=>cc.c3 (T 3 (by decide) h),fun h=>cc.c4 (T 4 (by decide) h),fun h=>cc.c5 (T 5 (by decide) h),fun h=>cc.c6 (T 6 (by decide) h),fun h=>by obtain ⟨g',c',e',k1,k2,k3,k4⟩:=cc.c7 (T 7 (by decide) h);exact ⟨g',c',e',k1,k2.old,k3,fun h6=>k4 (T 9 (by decide) h6)⟩,fun _=>⟨w'.heap.size,#[.int .u64 0,.int .u64 0,.int .u64 0,.int .u64 0,.int .u64 0,.int .u64 0,.int .u64 0,.int .u64 0],rfl,cc.ms,HRw.last rfl,rfl,fun h6=>absurd (cc.c10 (T 10 (by decide) h6)) hun⟩,fun h=>S 7 (cc.c9 (T 9 (by decide) h)),fun h=>S 8 (cc.c10 (T 10 (by decide) h)),fun h _=>by obtain ⟨g',c',e',k1,k2,k3,k4⟩:=cc.c7 (T 7 (by decide) h);have:=k2.lt;show vs 7≠Value.pointer (some ⟨w'.heap.size,0,none⟩);rw[e'];intro q;simp at q;try omega⟩⟩
    ·simp at ho
     subst ho
     have T:=dT lz 9
     have S:=dS lz 9
     have d4:=(wDn (i:=9) (j:=7) (by kernel_rfl) hi)
     obtain ⟨g,c,e,h1,h2,h3,h4⟩:=cc.c7 d4
     have hx:=(hF.new (t:=9) (i:=7) (by kernel_rfl) (by simp) d4).trans e
     have hv:=((hF.new (t:=29) (i:=5) (by kernel_rfl) (by simp) (wDn (i:=9) (j:=5) (by kernel_rfl) hi)).trans (cc.c5 (wDn (i:=9) (j:=5) (by kernel_rfl) hi)))
     exact wp_rowS 123 (.tmp 9) (.tmp 29) rfl g (c':=(ag .u64 16 q)) hx hv h2 h3 (agS _ _ _) (ag_one _ _ _) (by kernel_rfl) ⟨_,rfl,⟨bSR cc.bw (by omega) _,by rw[sSR];exact cc.ms,cc.R0.set_other _ (by omega),cc.R1.set_other _ (by omega),cc.R2.set_other _ (by omega),cc.R3.set_other _ (by omega),fun h=>cc.c0 (T 0 (by decide) h),fun h=>cc.c1 (T 1 (by decide) h),fun h=>cc.c2 (T 2 (by decide) h),fun h=>cc.c3 (T 3 (by decide) h),fun h=>cc.c4 (T 4 (by decide) h),fun h=>cc.c5 (T 5 (by decide) h),fun h=>cc.c6 (T 6 (by decide) h),fun h=>⟨g,_,e,h1,h2.set_same _,(agS _ _ _),fun _=>rfl⟩,fun h=>by obtain ⟨g',c',e',k1,k2,k3,k4⟩:=cc.c8 (T 8 (by decide) h);exact ⟨g',c',e',k1,k2.set_other _ (by rintro rfl;exact cc.ne7_8 d4 (T 8 (by decide) h) (by rw[e,e'])),k3,fun h6=>k4 (T 10 (by decide) h6)⟩,fun _=>S 7 d4,fun h=>S 8 (cc.c10 (T 10 (by decide) h)),fun h h'=>cc.ne7_8 (T 7 (by decide) h) (T 8 (by decide) h')⟩⟩
    ·simp at ho
     subst ho
     have T:=dT lz 10
     have S:=dS lz 10
     have d4:=(wDn (i:=10) (j:=8) (by kernel_rfl) hi)
     obtain ⟨g,c,e,h1,h2,h3,h4⟩:=cc.c8 d4
     have hx:=(hF.new (t:=10) (i:=8) (by kernel_rfl) (by simp) d4).trans e
     have hv:=((hF.new (t:=30) (i:=6) (by kernel_rfl) (by simp) (wDn (i:=10) (j:=6) (by kernel_rfl) hi)).trans (cc.c6 (wDn (i:=10) (j:=6) (by kernel_rfl) hi)))
     exact wp_rowS 124 (.tmp 10) (.tmp 30) rfl g (c':=(ag .u64 8 o)) hx hv h2 h3 (agS _ _ _) (ag_one _ _ _) (by kernel_rfl) ⟨_,rfl,⟨bSR cc.bw (by omega) _,by rw[sSR];exact cc.ms,cc.R0.set_other _ (by omega),cc.R1.set_other _ (by omega),cc.R2.set_other _ (by omega),cc.R3.set_other _ (by omega),fun h=>cc.c0 (T 0 (by decide) h),fun h=>cc.c1 (T 1 (by decide) h),fun h=>cc.c2 (T 2 (by decide) h),fun h=>cc.c3 (T 3 (by decide) h),fun h=>cc.c4 (T 4 (by decide) h),fun h=>cc.c5 (T 5 (by decide) h),fun h=>cc.c6 (T 6 (by decide) h),fun h=>by obtain ⟨g',c',e',k1,k2,k3,k4⟩:=cc.c7 (T 7 (by decide) h);exact ⟨g',c',e',k1,k2.set_other _ (by rintro rfl;exact cc.ne7_8 (T 7 (by decide) h) d4 (by rw[e,e'])),k3,fun h6=>k4 (T 9 (by decide) h6)⟩,fun h=>⟨g,_,e,h1,h2.set_same _,(agS _ _ _),fun _=>rfl⟩,fun h=>S 7 (cc.c9 (T 9 (by decide) h)),fun _=>S 8 d4,fun h h'=>cc.ne7_8 (T 7 (by decide) h) (T 8 (by decide) h')⟩⟩
   ·intro lz vs a' w' hd hF cc
    have e:a'=({ tmps:=#[U a,U b,.pointer (some ⟨w.heap.size,0,none⟩),.pointer (some ⟨w.heap.size+1,0,none⟩),.pointer (some ⟨w.heap.size+1+1,0,none⟩),.pointer (some ⟨w.heap.size+1+1+1,0,none⟩),.pointer (some ⟨w.heap.size+1+1+1+1,0,none⟩),.pointer (some ⟨b1,0,none⟩),.int .i64 8,vs 7,vs 8,undef,undef,.agg #[B (l0 a),B (l1 a),B (l2 a),B (l3 a)],.agg ch,.int .i64 8,.bool false,u17,u18,u19,u20,u21,u22,u23,vs 4,vs 0,vs 1,vs 2,vs 3,vs 5,vs 6,undef,undef,undef,undef,undef,undef,undef,undef],defers:=[] }:Act):=(hF.all hd).trans (by kernel_rfl)
    subst e
    obtain ⟨g9,c,e7,h1,h2,h3,h4⟩:=cc.c7 (hd 7 (by simp))
    rw[h4 (hd 9 (by simp))] at h2
    obtain ⟨g10,c',e8,k1,k2,k3,k4⟩:=cc.c8 (hd 8 (by simp))
    rw[k4 (hd 10 (by simp))] at k2
    have HH:Hid (HRw w' g9 (ag .u64 16 q)∧HRw w' g10 (ag .u64 8 o)∧HRw w' (w.heap.size+1+1) #[.int .u64 0,.int .u64 0,.int .u64 0,.int .u64 0]∧HRw w' (w.heap.size+1+1+1) #[.int .u64 0,.int .u64 0,.int .u64 0,.int .u64 0]∧Below w.heap.size w w'):=⟨h2,k2,cc.R2,cc.R3,cc.bw⟩
    rw[e7,e8]
    clear h2 h3 h4 k2 k3 k4 cc hd hF e7 e8
    go_upto_region 8 with fail
    refine wp_region_lit ?_
    refine wpList_rload' rfl 123 (.tmp 9) rfl g9 rfl .u64 16 q HH.out.1 Tryz.underlying123 (by kernel_rfl) ?_
    go_wp2_with fail
    refine (cp.out _).mono ?_
    rintro e w7 ⟨rfl,hb7⟩
    obtain ⟨x1,x2,x3,x4,x5⟩:=HH.out
    have Y2:Hid (HRw w7 g10 (ag .u64 8 o)):=x2.below hb7
    have Y3:Hid (HRw w7 (w.heap.size+1+1) #[.int .u64 0,.int .u64 0,.int .u64 0,.int .u64 0]):=x3.below hb7
    have Y4:Hid (HRw w7 (w.heap.size+1+1+1) #[.int .u64 0,.int .u64 0,.int .u64 0,.int .u64 0]):=x4.below hb7
    have Y5:Hid (Below w.heap.size w w7):=bCl x5 hb7
    have hq7:w.heap.size+1+1+1+1<w7.heap.size:=Nat.lt_of_lt_of_le (Nat.lt_of_lt_of_le hN h1) (Nat.le_of_lt (x1.below hb7).lt)
    clear hb7 x1 x2 x3 x4 x5 HH
    go_upto_region 9 with fail
    obtain ⟨bl,hbl⟩:∃ n,n=w7.heap.size+1:=⟨_,rfl⟩
    have Z1:Hid (HRw ((w7.alloc (Obj.cells #[B (l0 h),B (l1 h),B (l2 h),B (l3 h)] 24)).alloc (Obj.cells #[B (l0 l),B (l1 l),B (l2 l),B (l3 l)] 24)) bl #[B (l0 l),B (l1 l),B (l2 l),B (l3 l)]):=HRw.last (by rw[hbl];simp)
    have Z2:Hid (HRw ((w7.alloc (Obj.cells #[B (l0 h),B (l1 h),B (l2 h),B (l3 h)] 24)).alloc (Obj.cells #[B (l0 l),B (l1 l),B (l2 l),B (l3 l)] 24)) g10 (ag .u64 8 o)):=HRw.old (HRw.old Y2.out)
    have Z3:Hid (HRw ((w7.alloc (Obj.cells #[B (l0 h),B (l1 h),B (l2 h),B (l3 h)] 24)).alloc (Obj.cells #[B (l0 l),B (l1 l),B (l2 l),B (l3 l)] 24)) (w.heap.size+1+1) #[.int .u64 0,.int .u64 0,.int .u64 0,.int .u64 0]):=HRw.old (HRw.old Y3.out)
    have Z4:Hid (HRw ((w7.alloc (Obj.cells #[B (l0 h),B (l1 h),B (l2 h),B (l3 h)] 24)).alloc (Obj.cells #[B (l0 l),B (l1 l),B (l2 l),B (l3 l)] 24)) (w.heap.size+1+1+1) #[.int .u64 0,.int .u64 0,.int .u64 0,.int .u64 0]):=HRw.old (HRw.old Y4.out)
    have Z5:Hid (Below w.heap.size w ((w7.alloc (Obj.cells #[B (l0 h),B (l1 h),B (l2 h),B (l3 h)] 24)).alloc (Obj.cells #[B (l0 l),B (l1 l),B (l2 l),B (l3 l)] 24))):=bAl (bAl Y5.out _) _
    clear Y2 Y3 Y4 Y5
    generalize ((w7.alloc (Obj.cells #[B (l0 h),B (l1 h),B (l2 h),B (l3 h)] 24)).alloc (Obj.cells #[B (l0 l),B (l1 l),B (l2 l),B (l3 l)] 24))=w8 at *
    rw[← hbl]
    refine wRv2 (by kernel_rfl) (by kernel_rfl) (by kernel_rfl) (CDW w 0 l x bl g10 o) ?_ ?_ ?_
    ·refine ⟨Z5.out.drew,Nat.zero_le _,Z1.out,Z2.out,?_,?_,?_,⟨_,Z3.out,rfl,?_⟩,⟨_,Z4.out,rfl,?_⟩⟩<;>(intro h;simp[Array.getD] at h)
    ·intro lz vs a' w' i o' hs ho hi hF cc
     have hin:i<5:=by have:=(Array.getElem?_eq_some_iff.1 ho).1;simpa using this
     have hcase:i=0∨i=1∨i=2∨i=3∨i=4:=by omega
     rcases hcase with rfl | rfl | rfl | rfl | rfl
     ·simp at ho
      subst ho
      have T:=dT lz 0
      have S:=dS lz 0
      exact wp_rowF 24 (.tmp 12) rfl (bl) ((hF.old (by kernel_rfl)).trans rfl) cc.R0 rfl Tryz.underlying24 (by kernel_rfl) ⟨_,rfl,⟨cc.bw,cc.ms,cc.R0,cc.R1,fun _=>rfl,fun h=>cc.c1 (T 1 (by decide) h),fun h=>cc.c2 (T 2 (by decide) h),by obtain ⟨c',k2,k3,k4⟩:=cc.c3;exact ⟨c',k2,k3,fun h6=>k4 (T 3 (by decide) h6)⟩,by obtain ⟨c',k2,k3,k4⟩:=cc.c4;exact ⟨c',k2,k3,fun h6=>k4 (T 4 (by decide) h6)⟩⟩⟩
     ·simp at ho
      subst ho
      have T:=dT lz 1
      have S:=dS lz 1
      exact wp_rowF 124 (.tmp 10) rfl (g10) ((hF.old (by kernel_rfl)).trans rfl) cc.R1 (agS _ _ _) Tryz.underlying124 (by kernel_rfl) ⟨_,rfl,⟨cc.bw,cc.ms,cc.R0,cc.R1,fun h=>cc.c0 (T 0 (by decide) h),fun _=>rfl,fun h=>cc.c2 (T 2 (by decide) h),by obtain ⟨c',k2,k3,k4⟩:=cc.c3;exact ⟨c',k2,k3,fun h6=>k4 (T 3 (by decide) h6)⟩,by obtain ⟨c',k2,k3,k4⟩:=cc.c4;exact ⟨c',k2,k3,fun h6=>k4 (T 4 (by decide) h6)⟩⟩⟩
     ·simp at ho
      subst ho
      have T:=dT lz 2
      have S:=dS lz 2
      have hv0:=((hF.new (t:=37) (i:=1) (by kernel_rfl) (by simp) (wDn (i:=2) (j:=1) (by kernel_rfl) hi)).trans (cc.c1 (wDn (i:=2) (j:=1) (by kernel_rfl) hi)))
      refine wp_callF (f:=116) (args:=#[A8 o]) (v:=U x) (by simp[execOp_call_go,ev hv0,go_sem]) (c5.out w') ?_
      intro w'' hb''
      exact ⟨_,rfl,⟨cc.bw.trans (hb''.mono cc.bw.size),Nat.le_trans cc.ms hb''.size,cc.R0.below hb'',cc.R1.below hb'',fun h=>cc.c0 (T 0 (by decide) h),fun h=>cc.c1 (T 1 (by decide) h),fun _=>rfl,by obtain ⟨c',k2,k3,k4⟩:=cc.c3;exact ⟨c',k2.below hb'',k3,fun h6=>k4 (T 3 (by decide) h6)⟩,by obtain ⟨c',k2,k3,k4⟩:=cc.c4;exact ⟨c',k2.below hb'',k3,fun h6=>k4 (T 4 (by decide) h6)⟩⟩⟩
     ·simp at ho
      subst ho
      have T:=dT lz 3
      have S:=dS lz 3
      have hv:=((hF.new (t:=36) (i:=0) (by kernel_rfl) (by simp) (wDn (i:=3) (j:=0) (by kernel_rfl) hi)).trans (cc.c0 (wDn (i:=3) (j:=0) (by kernel_rfl) hi)))
      obtain ⟨c,h2,h3,h4⟩:=cc.c3
      exact wp_rowS 24 (.tmp 4) (.tmp 36) rfl (w.heap.size+1+1) (c':=#[B (l0 l),B (l1 l),B (l2 l),B (l3 l)]) ((hF.old (by kernel_rfl)).trans rfl) hv h2 h3 rfl (by simp[Value.oneCell']) (by kernel_rfl) ⟨_,rfl,⟨bSR cc.bw (by omega) _,by rw[sSR];exact cc.ms,cc.R0.set_other _ (by omega),cc.R1.set_other _ (by omega),fun h=>cc.c0 (T 0 (by decide) h),fun h=>cc.c1 (T 1 (by decide) h),fun h=>cc.c2 (T 2 (by decide) h),⟨_,h2.set_same _,rfl,fun _=>rfl⟩,by obtain ⟨c',k2,k3,k4⟩:=cc.c4;exact ⟨c',k2.set_other _ (by omega),k3,fun h6=>k4 (T 4 (by decide) h6)⟩⟩⟩
     ·simp at ho
      subst ho
      have T:=dT lz 4
      have S:=dS lz 4
      have hv:=((hF.new (t:=38) (i:=2) (by kernel_rfl) (by simp) (wDn (i:=4) (j:=2) (by kernel_rfl) hi)).trans (cc.c2 (wDn (i:=4) (j:=2) (by kernel_rfl) hi)))
      obtain ⟨c,h2,h3,h4⟩:=cc.c4
      exact wp_rowS 24 (.tmp 5) (.tmp 38) rfl (w.heap.size+1+1+1) (c':=#[B (l0 x),B (l1 x),B (l2 x),B (l3 x)]) ((hF.old (by kernel_rfl)).trans rfl) hv h2 h3 rfl (by simp[Value.oneCell']) (by kernel_rfl) ⟨_,rfl,⟨bSR cc.bw (by omega) _,by rw[sSR];exact cc.ms,cc.R0.set_other _ (by omega),cc.R1.set_other _ (by omega),fun h=>cc.c0 (T 0 (by decide) h),fun h=>cc.c1 (T 1 (by decide) h),fun h=>cc.c2 (T 2 (by decide) h),by obtain ⟨c',k2,k3,k4⟩:=cc.c3;exact ⟨c',k2.set_other _ (by omega),k3,fun h6=>k4 (T 3 (by decide) h6)⟩,⟨_,h2.set_same _,rfl,fun _=>rfl⟩⟩⟩
    ·intro lz vs a' w' hd hF cc
     obtain ⟨c,h2,h3,h4⟩:=cc.c3
     obtain ⟨c',k2,k3,k4⟩:=cc.c4
     have hx4:a'.eval (.tmp 4)=.pointer (some ⟨w.heap.size+1+1,0,none⟩):=(hF.old (by kernel_rfl)).trans rfl
     have hx5:a'.eval (.tmp 5)=.pointer (some ⟨w.heap.size+1+1+1,0,none⟩):=(hF.old (by kernel_rfl)).trans rfl
     have hr:=results_cell2 (P:=Tryz.prog) (fn:=Tryz.f84) rfl a' w' hx4 hx5 h2 k2 h3 k3 Tryz.underlying24 (by kernel_rfl) Tryz.underlying24 (by kernel_rfl)
     rw[h4 (hd 3 (by simp)),k4 (hd 4 (by simp))] at hr
     have HR:Hid _:=hr
     have HB:Hid _:=cc.bw
     have HD:Hid (a'.defers=[]):=hF.1
     clear hr cc hF hx4 hx5 h2 h3 h4 k2 k3 k4
     go_wp2
     exact bodyPost_ret HR.out HD.out ⟨rfl,HB.out⟩
theorem vl_cong2{f g:Nat→Nat}{k j:Nat}:∀ {n:Nat},(∀ i,i<n→f (k+i)=g (j+i))→vl f k n=vl g j n
 | 0,_=>rfl
 | n+1,h=>by rw[vl,vl,vl_cong2 (n:=n) (fun i hi=>h i (by omega)),h n (by omega)]
theorem vl_dgW{x:Nat}(h:x<W):vl (dg x) 0 8=x:=vl_dg_lt (by rw[← W_D];exact h)
theorem rrest_any(hi lo m:Nat)(h1:hi<W)(h2:lo<W)(h3:m<W)(w:World):Calls Tryz.prog 77 #[U hi,U lo,U m] w fun e w'=>e=.returned (U (dr hi lo m))∧Below w.heap.size w w':=by
 have hr:rm (hi*W+lo) m<W:=rm_lt _ h3
 have e0:dr hi lo m=rm (hi*W+lo) m:=rfl
 rw[e0]
 refine rrest_raw hi lo m _ (dg hi) (dg lo) (dg m) (dg ((hi*W+lo)/m)) (dg (rm (hi*W+lo) m)) (digits_any hi) (digits_any lo) (digits_any m) (fun dd hdd w=>?_) (fun w=>?_) w
 ·have eX:vl dd 0 16=hi*W+lo:=by
   rw[show (16:Nat)=8+8 from rfl,vl_add,vl_cong2 (g:=dg lo) (j:=0) (fun i hi'=>by rw[Nat.zero_add];exact (hdd i hi').1),vl_cong2 (f:=dd) (k:=0+8) (g:=dg hi) (j:=0) (fun i hi'=>by rw[show 0+8+i=i+8 by omega,Nat.zero_add];exact (hdd i hi').2),vl_dgW h1,vl_dgW h2,← W_D,Nat.mul_comm W]
   omega
  have h:=long_any dd (dg m) (fun i hi'=>by
   rcases Nat.lt_or_ge i 8 with h | h
   ·rw[(hdd i h).1];exact dg_lt _ _
   ·have:=(hdd (i-8) (by omega)).2
    rw[show i-8+8=i by omega] at this
    rw[this];exact dg_lt _ _) (fun i _=>dg_lt _ _) w
  rw[eX,vl_dgW h3] at h
  exact h
 ·have h:=number_any (dg (rm (hi*W+lo) m)) (fun i _=>dg_lt _ _) w
  rw[vl_dgW hr] at h
  exact h
theorem rdiv_any(a b:Nat)(h1:a<W)(h2:b<W)(w:World):Calls Tryz.prog 84 #[U a,U b] w fun e w'=>e=.returned (.tuple #[U (a/b),U (dr 0 a b)])∧Below w.heap.size w w':=by
 have hq:a/b<W:=Nat.lt_of_le_of_lt (Nat.div_le_self _ _) h1
 have hr:rm a b<W:=rm_lt _ h2
 have e0:dr 0 a b=rm a b:=by unfold dr rm;rw[Nat.zero_mul,Nat.zero_add]
 rw[e0]
 refine rdiv_raw a b (vl (dg (a/b)) 8 8) (a/b) _ (dg a) (dg b) (dg (a/b)) (dg (rm a b)) (digits_any a) (digits_any b) (fun dd hd1 hd2 w=>?_) (fun w=>?_) (fun w=>?_) w
 ·have eX:vl dd 0 16=a:=by
   rw[vl_cut (f:=dd) (a:=8) (b:=16) (by omega) (fun i hi _=>hd2 i hi),vl_cong2 (g:=dg a) (j:=0) (fun i hi'=>by rw[Nat.zero_add];exact hd1 i hi'),vl_dgW h1]
  have h:=long_any dd (dg b) (fun i hi'=>by
   rcases Nat.lt_or_ge i 8 with h | h
   ·rw[hd1 i h];exact dg_lt _ _
   ·rw[hd2 i h];exact D_pos) (fun i _=>dg_lt _ _) w
  rw[eX,vl_dgW h2] at h
  exact h
 ·have h:=parts_any (dg (a/b)) (fun i _=>dg_lt _ _) w
  rw[vl_dgW hq] at h
  exact h
 ·have h:=number_any (dg (rm a b)) (fun i _=>dg_lt _ _) w
  rw[vl_dgW hr] at h
  exact h
end
end Go.Proofs.YtfhppenjbmmadaaGreatDoor
