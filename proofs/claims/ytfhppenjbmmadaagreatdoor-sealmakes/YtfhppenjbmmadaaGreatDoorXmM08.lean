import Derived.Test.YtfhppenjbmmadaaGreatDoorXmM07
import Derived.Test.YtfhppenjbmmadaaGreatDoorXmM06
import Derived.WalkMore
namespace Go.Proofs.YtfhppenjbmmadaaGreatDoor
set_option linter.unusedVariables false
set_option maxHeartbeats 8000000
section
open Go.RowKit Go.Sort
structure D0 (w w':World) (hg lw dv:Nat):Prop where
 h:HRw w' w.heap.size #[B (l0 hg),B (l1 hg),B (l2 hg),B (l3 hg)]
 l:HRw w' (w.heap.size+1) #[B (l0 lw),B (l1 lw),B (l2 lw),B (l3 lw)]
 d:HRw w' (w.heap.size+1+1) #[B (l0 dv),B (l1 dv),B (l2 dv),B (l3 dv)]
 r1:HRw w' (w.heap.size+1+1+1) #[.int .u64 0,.int .u64 0,.int .u64 0,.int .u64 0]
 r2:HRw w' (w.heap.size+1+1+1+1) #[.int .u64 0,.int .u64 0,.int .u64 0,.int .u64 0]
 b:Below w.heap.size w w'
theorem D0.call{w w' w'':World}{hg lw dv:Nat}(h:D0 w w' hg lw dv)(hb:Below w'.heap.size w' w''):D0 w w'' hg lw dv:=
 ⟨h.h.below hb,h.l.below hb,h.d.below hb,h.r1.below hb,h.r2.below hb,h.b.trans (hb.mono h.b.size)⟩
theorem D0.alloc{w w':World}{hg lw dv:Nat}(h:D0 w w' hg lw dv)(o:Obj):D0 w (w'.alloc o) hg lw dv:=
 ⟨h.h.old,h.l.old,h.d.old,h.r1.old,h.r2.old,bAl h.b o⟩
structure DV (w w':World) (bb bl bq:Nat) (g f q:Nat→Nat):Prop where
 y:HRw w' bb (ag .u32 8 g)
 l:HRw w' bl (ag .u32 17 f)
 q:HRw w' bq (ag .u32 16 q)
 r1:HRw w' (w.heap.size+1+1+1) #[.int .u64 0,.int .u64 0,.int .u64 0,.int .u64 0]
 r2:HRw w' (w.heap.size+1+1+1+1) #[.int .u64 0,.int .u64 0,.int .u64 0,.int .u64 0]
 b:Below w.heap.size w w'
structure DB (w:World) (bb bl bq:Nat):Prop where
 h1:w.heap.size+1+1+1+1<bb
 h2:bb<bl
 h3:bl<bq
theorem DV.call{w w' w'':World}{bb bl bq:Nat}{g f q:Nat→Nat}(h:DV w w' bb bl bq g f q)(hb:Below w'.heap.size w' w''):DV w w'' bb bl bq g f q:=
 ⟨h.y.below hb,h.l.below hb,h.q.below hb,h.r1.below hb,h.r2.below hb,h.b.trans (hb.mono h.b.size)⟩
theorem DV.left{w w':World}{bb bl bq:Nat}{g f q:Nat→Nat}(h:DV w w' bb bl bq g f q)(hB:DB w bb bl bq)(f':Nat→Nat):DV w (w'.setRow bl (ag .u32 17 f')) bb bl bq g f' q:=by
 have h1:=hB.h1;have h2:=hB.h2;have h3:=hB.h3
 exact ⟨h.y.set_other _ (by omega),h.l.set_same _,h.q.set_other _ (by omega),h.r1.set_other _ (by omega),h.r2.set_other _ (by omega),bSR h.b (by omega) _⟩
theorem DV.quot{w w':World}{bb bl bq:Nat}{g f q:Nat→Nat}(h:DV w w' bb bl bq g f q)(hB:DB w bb bl bq)(i x:Nat):DV w (w'.setCell ⟨bq,i,none⟩ (.int .u32 (x:Nat))) bb bl bq g f (upd q i x):=by
 have h1:=hB.h1;have h2:=hB.h2;have h3:=hB.h3
 rw[h.q.setCell,ag_set]
 exact ⟨h.y.set_other _ (by omega),h.l.set_other _ (by omega),h.q.set_same _,h.r1.set_other _ (by omega),h.r2.set_other _ (by omega),bSR h.b (by omega) _⟩
structure DK (X m:Nat) (g:Nat→Nat):Prop where
 m8:m<8
 gd:∀ i,i<8→g i<D
 gt:0<g m
theorem DK.V{X m:Nat}{g:Nat→Nat}(h:DK X m g):0<vl g 0 (m+1)∧vl g 0 (m+1)<D^(m+1):=by
 refine ⟨?_,vl_lt fun i hi=>?_⟩
 ·rw[vl,Nat.zero_add]
  have:=Nat.mul_pos h.gt (Dp m)
  omega
 ·rw[Nat.zero_add];exact h.gd i (by have:=h.m8;omega)
theorem guess_ok{X m:Nat}{g f q:Nat→Nat}{p:Nat}(h:DK X m g)(hI:DI X (vl g 0 (m+1)) f q (p+1))(hp:p+(m+1)≤16) :
  vl f p (m+1+1)/vl g 0 (m+1)≤min ((f (p+(m+1))*D+f (p+m))/g m) (D-1)∧min ((f (p+(m+1))*D+f (p+m))/g m) (D-1)<D:=by
 obtain ⟨hV,hVn⟩:=h.V
 have h1:=guess_ge (f:=f) (g:=g) (k:=p) (n:=m+1) (fun i hi=>hI.hf _ (by omega)) (by omega) (by simpa using h.gt)
 simp only[Nat.add_sub_cancel] at h1
 have h2:=hI.window hp hVn
 have h3:vl f p (m+1+1)/vl g 0 (m+1)<D:=(Nat.div_lt_iff_lt_mul hV).2 h2
 have hD:=D_pos
 refine ⟨?_,?_⟩
 ·refine Nat.le_min.2 ⟨h1,Nat.le_sub_one_of_lt h3⟩
 ·have:=Nat.min_le_right ((f (p+(m+1))*D+f (p+m))/g m) (D-1)
  generalize min ((f (p+(m+1))*D+f (p+m))/g m) (D-1)=x at *
  omega
structure CZ (w:World) (bl bq s:Nat) (f q:Nat→Nat) (lz:Array Bool) (vs:Nat→Value) (w':World):Prop where
 b:Below w.heap.size w w'
 lr:HRw w' bl (ag .u32 17 f)
 qr:HRw w' bq (ag .u32 16 q)
 c0:lz.getD 0 false=true→vs 0=.slice (some ⟨bq,0,none⟩) 8 16
 c1:lz.getD 1 false=true→vs 1=U (vl q 0 8)
 c2:lz.getD 2 false=true→vs 2=.slice (some ⟨bl,0,none⟩) 8 17
 c3:lz.getD 3 false=true→vs 3=U (vl f 0 8)
 c4:lz.getD 4 false=true→vs 4=B s
 c5:lz.getD 5 false=true→vs 5=U (shrW (vl f 0 8) s)
 c6:∃ c,HRw w' (w.heap.size+1+1+1) c∧c.size=4∧(lz.getD 6 false=true→.agg c=U (vl q 0 8))
 c7:∃ c,HRw w' (w.heap.size+1+1+1+1) c∧c.size=4∧(lz.getD 7 false=true→.agg c=U (shrW (vl f 0 8) s))
set_option maxRecDepth 100000 in
theorem divide_raw(hg lw dv sz m s V X:Nat)(g:Nat→Nat)(FP:(Nat→Nat)→Prop)(hsz:0<sz)(hsz2:sz≤256)(hn:((sz:Int)+32-1)/32=(m:Int)+1)(hs:((m:Int)+1)*32-(sz:Int)=(s:Int))(hK:DK X m g)(s1:Hid (∀ w,Calls Tryz.prog 135 #[U dv] w fun e w'=>e=.returned (.int .i64 (sz:Int))∧Below w.heap.size w w'))(s2:Hid (∀ w,Calls Tryz.prog 159 #[U dv,B s] w fun e w'=>e=.returned (U V)∧Below w.heap.size w w'))(s3:Hid (∀ w,Calls Tryz.prog 151 #[U V] w fun e w'=>e=.returned (L8 g)∧Below w.heap.size w w'))(s4:Hid (∀ w,Calls Tryz.prog 160 #[U hg,U lw,B s] w fun e w'=>(∃ f,FP f∧e=.returned (L17 f))∧Below w.heap.size w w'))(hF:Hid (∀ f,FP f→DI X (vl g 0 (m+1)) f (fun _=>0) (16-m)))(w:World) :
  Calls Tryz.prog 153 #[U hg,U lw,U dv] w fun e w'=>
   (∃ f q,DI X (vl g 0 (m+1)) f q 0∧e=.returned (.tuple #[U (vl q 0 8),U (shrW (vl f 0 8) s)]))∧Below w.heap.size w w':=by
 have KK:Hid _:=hK
 have hm8:m<8:=hK.m8
 clear hK
 go_enter Tryz.func153,Tryz.ntmps153
 go_wp2
 go_step3
 go_wp2_with fail
 refine (s1.out _).mono ?_
 rintro e w1 ⟨rfl,hb1⟩
 have F1:Hid (D0 w w1 hg lw dv):=⟨(HRw.old (HRw.old (HRw.old (HRw.old (HRw.last rfl))))).below hb1,(HRw.old (HRw.old (HRw.old (HRw.last (by simp))))).below hb1,(HRw.old (HRw.old (HRw.last (by simp)))).below hb1,(HRw.old (HRw.last (by simp))).below hb1,(HRw.last (by simp)).below hb1,bCl (by (repeat (first | exact Below.refl _ _ | refine bAl ?_ _))) hb1⟩
 clear hb1
 have g0:=F1.out.d.cell 0
 have g1:=F1.out.d.cell 1
 have g2:=F1.out.d.cell 2
 have g3:=F1.out.d.cell 3
 simp at g0 g1 g2 g3
 have hz0:((sz:Int) == 0)=false:=by simp;omega
 go_wp2_with fail
 refine (s2.out _).mono ?_
 rintro e w2 ⟨rfl,hb2⟩
 have F2:Hid _:=F1.out.call hb2
 clear F1 g0 g1 g2 g3 hb2
 go_wp2_with fail
 refine (s3.out _).mono ?_
 rintro e w3 ⟨he,hb3⟩
 obtain ⟨cy,hcy⟩:∃ c,c=ag .u32 8 g:=⟨_,rfl⟩
 have he':e=.returned (.agg cy):=by rw[he,hcy]
 subst he'
 have F3:Hid _:=F2.out.call hb3
 clear F2 hb3 he
 have hsz8:cy.size=8:=by rw[hcy];exact agS _ _ _
 have hsc8:=rSv (P:=Tryz.prog) (⟨hcy⟩:IsRow cy .u32 8 g) (g:=w3.heap.size) 159 (by kernel_rfl) (StoreTo.last (w:=w3) (c:=z8) (t:=159) rfl rfl)
 have g0:=F3.out.h.cell 0
 have g1:=F3.out.h.cell 1
 have g2:=F3.out.h.cell 2
 have g3:=F3.out.h.cell 3
 have k0:=F3.out.l.cell 0
 have k1:=F3.out.l.cell 1
 have k2:=F3.out.l.cell 2
 have k3:=F3.out.l.cell 3
 simp at g0 g1 g2 g3 k0 k1 k2 k3
 have hq4:w.heap.size+1+1+1+1<w3.heap.size:=F3.out.r2.lt
 have hqa:w.heap.size<w3.heap.size:=F3.out.h.lt
 have hqb:w.heap.size+1<w3.heap.size:=F3.out.l.lt
 have HC:Hid _:=hcy
 clear hcy
 go_wp2_with fail
 refine (s4.out _).mono ?_
 rintro e w4 ⟨⟨f0,hf0,he⟩,hb4⟩
 obtain ⟨cl,hcl⟩:∃ c,c=ag .u32 17 f0:=⟨_,rfl⟩
 have he':e=.returned (.agg cl):=by rw[he,hcl]
 subst he'
 have F4:Hid _:=(F3.out.alloc (.cells (ag .u32 8 g) 159)).call hb4
 have Y4:Hid (HRw w4 w3.heap.size (ag .u32 8 g)):=(HRw.last rfl).below hb4
 have hq5:w3.heap.size<w4.heap.size:=Y4.out.lt
 clear F3 g0 g1 g2 g3 k0 k1 k2 k3 hb4 hsz8 hsc8 HC he hqa hqb
 have hsz17:cl.size=17:=by rw[hcl];exact agS _ _ _
 have hsc17:=rSv (P:=Tryz.prog) (⟨hcl⟩:IsRow cl .u32 17 f0) (g:=w4.heap.size) 169 (by kernel_rfl) (StoreTo.last (w:=w4) (c:=z17) (t:=169) rfl rfl)
 have I0:Hid _:=hF.out f0 hf0
 clear hcl hf0
 go_wp2
 go_step3
 go_wp2
 have B0:Hid (DB w w3.heap.size w4.heap.size (w4.heap.size+1)):=⟨hq4,hq5,by omega⟩
 have V0:Hid (DV w ((w4.alloc (Obj.cells (ag .u32 17 f0) 169)).alloc (Obj.cells z16 162)) w3.heap.size w4.heap.size (w4.heap.size+1) g f0 (fun _=>0)):=
  ⟨Y4.out.old.old,(HRw.last rfl).old,HRw.last (by simp),F4.out.r1.old.old,F4.out.r2.old.old,bAl (bAl F4.out.b _) _⟩
 clear F4 Y4 hsz17 hsc17 s1 s2 s3 s4 hF
 generalize (w4.alloc (Obj.cells (ag .u32 17 f0) 169)).alloc (Obj.cells z16 162)=w5 at *
 generalize w3.heap.size=bb at *
 generalize hbl:w4.heap.size=bl at *
 generalize hbq:bl+1=bq at *
 clear hbl hbq hq4 hq5
 go_loopw [14] (fun i w'=>∃ (t:Nat) (f q:Nat→Nat),t≤16-m∧i=.int .i64 ((t:Int)-1)∧DV w w' bb bl bq g f q∧DI X (vl g 0 (m+1)) f q t) (fun i _=>(intOf i+1).toNat)
 case atStart=>exact ⟨16-m,f0,fun _=>0,Nat.le_refl _,by (refine congrArg _ ?_;omega),V0.out,I0.out⟩
 case round=>
  obtain ⟨t,f,q,ht,rfl,hS,hI⟩:=hrel
  clear V0 I0
  have KI:Hid _:=hI
  have KS:Hid _:=hS
  clear hI
  rcases t with _ | p
  ·rw[show ((0:Nat):Int)-1 = -1 by rfl]
   clear hS
   go_wp2
   have h1:=B0.out.h1
   have h2:=B0.out.h2
   have h3:=B0.out.h3
   have S0:=KS.out
   refine wp_region_vals (by kernel_rfl) (by kernel_rfl) (by kernel_rfl) (CZ w bl bq s f q) ?_ ?_ ?_
   ·refine ⟨S0.b.drew,S0.l,S0.q,?_,?_,?_,?_,?_,?_,⟨_,S0.r1,rfl,?_⟩,⟨_,S0.r2,rfl,?_⟩⟩<;>(intro h;simp[Array.getD] at h)
   ·intro lz vs a' w' i o hs ho hi hF cc
    have hi8:i<8:=by have:=(Array.getElem?_eq_some_iff.1 ho).1;simpa using this
    have hcase:i=0∨i=1∨i=2∨i=3∨i=4∨i=5∨i=6∨i=7:=by omega
    rcases hcase with rfl | rfl | rfl | rfl | rfl | rfl | rfl | rfl
    ·simp at ho
     subst ho
     have T:=dT lz 0
     have hv:a'.eval (.tmp 13)=.pointer (some ⟨bq,0,none⟩):=(hF.old (by kernel_rfl)).trans rfl
     refine wVF (v:=.slice (some ⟨bq,0,none⟩) 8 16) (w1:=w') (by simp[execOp,go_sem,ev hv]) ⟨_,rfl,⟨cc.b,cc.lr,cc.qr,fun _=>rfl,fun h=>cc.c1 (T 1 (by decide) h),fun h=>cc.c2 (T 2 (by decide) h),fun h=>cc.c3 (T 3 (by decide) h),fun h=>cc.c4 (T 4 (by decide) h),fun h=>cc.c5 (T 5 (by decide) h),by obtain ⟨c,h2,h3,h4⟩:=cc.c6;exact ⟨c,h2,h3,fun h=>h4 (T 6 (by decide) h)⟩,by obtain ⟨c,h2,h3,h4⟩:=cc.c7;exact ⟨c,h2,h3,fun h=>h4 (T 7 (by decide) h)⟩⟩⟩
    ·simp at ho
     subst ho
     have T:=dT lz 1
     have hv:=((hF.new (t:=75) (i:=0) (by kernel_rfl) (by simp) (wDn (i:=1) (j:=0) (by kernel_rfl) hi)).trans (cc.c0 (wDn (i:=1) (j:=0) (by kernel_rfl) hi)))
     refine wp_callF (f:=152) (args:=#[.slice (some ⟨bq,0,none⟩) 8 16]) (v:=U (vl q 0 8)) (by simp[execOp_call_go,ev hv,go_sem]) (join_any bq 0 16 q (fun i h=>KI.out.hqd _ (by omega)) w' cc.qr.lt (fun i h=>by rw[cc.qr.cell,agG,if_pos (by omega),Nat.zero_add])) ?_
     intro w'' hb''
     exact ⟨_,rfl,⟨cc.b.trans (hb''.mono cc.b.size),cc.lr.below hb'',cc.qr.below hb'',fun h=>cc.c0 (T 0 (by decide) h),fun _=>rfl,fun h=>cc.c2 (T 2 (by decide) h),fun h=>cc.c3 (T 3 (by decide) h),fun h=>cc.c4 (T 4 (by decide) h),fun h=>cc.c5 (T 5 (by decide) h),by obtain ⟨c,h2,h3,h4⟩:=cc.c6;exact ⟨c,h2.below hb'',h3,fun h=>h4 (T 6 (by decide) h)⟩,by obtain ⟨c,h2,h3,h4⟩:=cc.c7;exact ⟨c,h2.below hb'',h3,fun h=>h4 (T 7 (by decide) h)⟩⟩⟩
    ·simp at ho
     subst ho
     have T:=dT lz 2
     have hv:a'.eval (.tmp 12)=.pointer (some ⟨bl,0,none⟩):=(hF.old (by kernel_rfl)).trans rfl
     refine wVF (v:=.slice (some ⟨bl,0,none⟩) 8 17) (w1:=w') (by simp[execOp,go_sem,ev hv]) ⟨_,rfl,⟨cc.b,cc.lr,cc.qr,fun h=>cc.c0 (T 0 (by decide) h),fun h=>cc.c1 (T 1 (by decide) h),fun _=>rfl,fun h=>cc.c3 (T 3 (by decide) h),fun h=>cc.c4 (T 4 (by decide) h),fun h=>cc.c5 (T 5 (by decide) h),by obtain ⟨c,h2,h3,h4⟩:=cc.c6;exact ⟨c,h2,h3,fun h=>h4 (T 6 (by decide) h)⟩,by obtain ⟨c,h2,h3,h4⟩:=cc.c7;exact ⟨c,h2,h3,fun h=>h4 (T 7 (by decide) h)⟩⟩⟩
    ·simp at ho
     subst ho
     have T:=dT lz 3
     have hv:=((hF.new (t:=77) (i:=2) (by kernel_rfl) (by simp) (wDn (i:=3) (j:=2) (by kernel_rfl) hi)).trans (cc.c2 (wDn (i:=3) (j:=2) (by kernel_rfl) hi)))
     refine wp_callF (f:=152) (args:=#[.slice (some ⟨bl,0,none⟩) 8 17]) (v:=U (vl f 0 8)) (by simp[execOp_call_go,ev hv,go_sem]) (join_any bl 0 17 f (fun i h=>KI.out.hf _ (by omega)) w' cc.lr.lt (fun i h=>by rw[cc.lr.cell,agG,if_pos (by omega),Nat.zero_add])) ?_
     intro w'' hb''
     exact ⟨_,rfl,⟨cc.b.trans (hb''.mono cc.b.size),cc.lr.below hb'',cc.qr.below hb'',fun h=>cc.c0 (T 0 (by decide) h),fun h=>cc.c1 (T 1 (by decide) h),fun h=>cc.c2 (T 2 (by decide) h),fun _=>rfl,fun h=>cc.c4 (T 4 (by decide) h),fun h=>cc.c5 (T 5 (by decide) h),by obtain ⟨c,h2,h3,h4⟩:=cc.c6;exact ⟨c,h2.below hb'',h3,fun h=>h4 (T 6 (by decide) h)⟩,by obtain ⟨c,h2,h3,h4⟩:=cc.c7;exact ⟨c,h2.below hb'',h3,fun h=>h4 (T 7 (by decide) h)⟩⟩⟩
    ·simp at ho
     subst ho
     have T:=dT lz 4
     have hv:a'.eval (.tmp 10)=B s:=(hF.old (by kernel_rfl)).trans rfl
     refine wVF (v:=B s) (w1:=w') (by simp[execOp,go_sem,ev hv]) ⟨_,rfl,⟨cc.b,cc.lr,cc.qr,fun h=>cc.c0 (T 0 (by decide) h),fun h=>cc.c1 (T 1 (by decide) h),fun h=>cc.c2 (T 2 (by decide) h),fun h=>cc.c3 (T 3 (by decide) h),fun _=>rfl,fun h=>cc.c5 (T 5 (by decide) h),by obtain ⟨c,h2,h3,h4⟩:=cc.c6;exact ⟨c,h2,h3,fun h=>h4 (T 6 (by decide) h)⟩,by obtain ⟨c,h2,h3,h4⟩:=cc.c7;exact ⟨c,h2,h3,fun h=>h4 (T 7 (by decide) h)⟩⟩⟩
    ·simp at ho
     subst ho
     have T:=dT lz 5
     have hv1:=((hF.new (t:=78) (i:=3) (by kernel_rfl) (by simp) (wDn (i:=5) (j:=3) (by kernel_rfl) hi)).trans (cc.c3 (wDn (i:=5) (j:=3) (by kernel_rfl) hi)))
     have hv2:=((hF.new (t:=79) (i:=4) (by kernel_rfl) (by simp) (wDn (i:=5) (j:=4) (by kernel_rfl) hi)).trans (cc.c4 (wDn (i:=5) (j:=4) (by kernel_rfl) hi)))
     refine wp_callF (f:=122) (args:=#[U (vl f 0 8),B s]) (v:=U (shrW (vl f 0 8) s)) (by simp[execOp_call_go,ev hv1,ev hv2,go_sem]) (shr_any (vl f 0 8) s (by rw[W_D];exact vl_lt fun i hi=>by rw[Nat.zero_add];exact KI.out.hf i (by omega)) w') ?_
     intro w'' hb''
     exact ⟨_,rfl,⟨cc.b.trans (hb''.mono cc.b.size),cc.lr.below hb'',cc.qr.below hb'',fun h=>cc.c0 (T 0 (by decide) h),fun h=>cc.c1 (T 1 (by decide) h),fun h=>cc.c2 (T 2 (by decide) h),fun h=>cc.c3 (T 3 (by decide) h),fun h=>cc.c4 (T 4 (by decide) h),fun _=>rfl,by obtain ⟨c,h2,h3,h4⟩:=cc.c6;exact ⟨c,h2.below hb'',h3,fun h=>h4 (T 6 (by decide) h)⟩,by obtain ⟨c,h2,h3,h4⟩:=cc.c7;exact ⟨c,h2.below hb'',h3,fun h=>h4 (T 7 (by decide) h)⟩⟩⟩
    ·simp at ho
     subst ho
     have T:=dT lz 6
     have hv:=((hF.new (t:=76) (i:=1) (by kernel_rfl) (by simp) (wDn (i:=6) (j:=1) (by kernel_rfl) hi)).trans (cc.c1 (wDn (i:=6) (j:=1) (by kernel_rfl) hi)))
     have hx:a'.eval (.tmp 6)=.pointer (some ⟨(w.heap.size+1+1+1),0,none⟩):=(hF.old (by kernel_rfl)).trans rfl
     obtain ⟨c,h2,h3,h4⟩:=cc.c6
     obtain ⟨c',k2,k3,k4⟩:=cc.c7
     refine wp_rowS 24 (.tmp 6) (.tmp 76) rfl (w.heap.size+1+1+1) (c':=#[B (l0 (vl q 0 8)),B (l1 (vl q 0 8)),B (l2 (vl q 0 8)),B (l3 (vl q 0 8))]) hx hv h2 h3 rfl (by simp[Value.oneCell']) (by kernel_rfl) ⟨_,rfl,⟨bSR cc.b (by omega) _,cc.lr.set_other _ (by omega),cc.qr.set_other _ (by omega),fun h=>cc.c0 (T 0 (by decide) h),fun h=>cc.c1 (T 1 (by decide) h),fun h=>cc.c2 (T 2 (by decide) h),fun h=>cc.c3 (T 3 (by decide) h),fun h=>cc.c4 (T 4 (by decide) h),fun h=>cc.c5 (T 5 (by decide) h),⟨_,h2.set_same _,rfl,fun _=>rfl⟩,⟨c',k2.set_other _ (by omega),k3,fun h=>k4 (T 7 (by decide) h)⟩⟩⟩
    ·simp at ho
     subst ho
     have T:=dT lz 7
     have hv:=((hF.new (t:=80) (i:=5) (by kernel_rfl) (by simp) (wDn (i:=7) (j:=5) (by kernel_rfl) hi)).trans (cc.c5 (wDn (i:=7) (j:=5) (by kernel_rfl) hi)))
     have hx:a'.eval (.tmp 7)=.pointer (some ⟨(w.heap.size+1+1+1+1),0,none⟩):=(hF.old (by kernel_rfl)).trans rfl
     obtain ⟨c,h2,h3,h4⟩:=cc.c7
     obtain ⟨c',k2,k3,k4⟩:=cc.c6
     refine wp_rowS 24 (.tmp 7) (.tmp 80) rfl (w.heap.size+1+1+1+1) (c':=#[B (l0 (shrW (vl f 0 8) s)),B (l1 (shrW (vl f 0 8) s)),B (l2 (shrW (vl f 0 8) s)),B (l3 (shrW (vl f 0 8) s))]) hx hv h2 h3 rfl (by simp[Value.oneCell']) (by kernel_rfl) ⟨_,rfl,⟨bSR cc.b (by omega) _,cc.lr.set_other _ (by omega),cc.qr.set_other _ (by omega),fun h=>cc.c0 (T 0 (by decide) h),fun h=>cc.c1 (T 1 (by decide) h),fun h=>cc.c2 (T 2 (by decide) h),fun h=>cc.c3 (T 3 (by decide) h),fun h=>cc.c4 (T 4 (by decide) h),fun h=>cc.c5 (T 5 (by decide) h),⟨c',k2.set_other _ (by omega),k3,fun h=>k4 (T 6 (by decide) h)⟩,⟨_,h2.set_same _,rfl,fun _=>rfl⟩⟩⟩
   ·intro lz vs a' w' hd hF cc
    obtain ⟨c,h2,h3,h4⟩:=cc.c6
    obtain ⟨c',k2,k3,k4⟩:=cc.c7
    have hx4:a'.eval (.tmp 6)=.pointer (some ⟨w.heap.size+1+1+1,0,none⟩):=(hF.old (by kernel_rfl)).trans rfl
    have hx5:a'.eval (.tmp 7)=.pointer (some ⟨w.heap.size+1+1+1+1,0,none⟩):=(hF.old (by kernel_rfl)).trans rfl
    have hr:=results_cell2 (P:=Tryz.prog) (fn:=Tryz.f153) rfl a' w' hx4 hx5 h2 k2 h3 k3 Tryz.underlying24 (by kernel_rfl) Tryz.underlying24 (by kernel_rfl)
    rw[h4 (hd 6 (by simp)),k4 (hd 7 (by simp))] at hr
    have HR:Hid _:=hr
    have HB:Hid _:=cc.b
    have HD:Hid (a'.defers=[]):=hF.1
    clear hr cc hF hx4 hx5 h2 h3 h4 k2 k3 k4
    go_wp2
    unfold Exit.noGoto
    simp only[]
    exact bodyPost_ret HR.out HD.out ⟨⟨f,q,KI.out,rfl⟩,HB.out⟩
  ·rw[show ((p+1:Nat):Int)-1=(p:Int) by omega]
   have hp16:p+(m+1)≤16:=by omega
   have GO:Hid _:=guess_ok KK.out KI.out hp16
   go_upto_region 12 with fail
   refine wp_region_lit ?_
   refine wpList_rload' rfl 169 (.tmp 12) rfl bl rfl .u32 17 f hS.l Tryz.underlying169 (by kernel_rfl) ?_
   refine wpList_rload' rfl 159 (.tmp 11) rfl bb rfl .u32 8 g hS.y Tryz.underlying159 (by kernel_rfl) ?_
   clear hS
   go_wp2_with fail
   refine (guess_raw f g p m hm8 (by omega) (KI.out.hf _ (by omega)) (KI.out.hf _ (by omega)) KK.out.gt (KK.out.gd m hm8) _).mono ?_
   rintro e w6 ⟨rfl,hb6⟩
   have S6:=KS.out.call hb6
   clear hb6 KS
   generalize min ((f (p+(m+1))*D+f (p+m))/g m) (D-1)=dn at *
   go_upto_region 14 with fail
   refine wp_region_lit ?_
   refine wpList_rload' rfl 169 (.tmp 12) rfl bl rfl .u32 17 f S6.l Tryz.underlying169 (by kernel_rfl) ?_
   refine wpList_rload' rfl 159 (.tmp 11) rfl bb rfl .u32 8 g S6.y Tryz.underlying159 (by kernel_rfl) ?_
   go_wp2_with fail
   refine (take_raw f g dn p (m+1) (by omega) (by omega) GO.out.2 KI.out.hf KK.out.gd _).mono ?_
   rintro e w7 ⟨⟨f1,t1,he,ht1,hTO⟩,hb7⟩
   obtain ⟨c1,hc1⟩:∃ c,c=ag .u32 17 f1:=⟨_,rfl⟩
   have he':e=.returned (.tuple #[.agg c1,.bool (decide (t1=0))]):=by rw[he,hc1]
   subst he'
   have S7:=S6.call hb7
   have hz17:c1.size=17:=by rw[hc1];exact agS _ _ _
   have hsc:=rSv (P:=Tryz.prog) (⟨hc1⟩:IsRow c1 .u32 17 f1) (g:=bl) 169 (by kernel_rfl) (StoreTo.row S7.l (agS _ _ _))
   have K7:Hid _:=S7.left B0.out f1
   have N7:Hid _:=IN.ofTO hTO GO.out.1 GO.out.2
   have T7:Hid (t1≤1):=ht1
   clear he hb7 S6 S7 hTO hc1 ht1
   go_wp2
   clear hsc hz17
   go_loopw [15,16] (fun d b w'=>∃ (dn tt:Nat) (f2:Nat→Nat),d=B dn∧b=.bool (decide (tt=0))∧tt≤1∧DV w w' bb bl bq g f2 q∧IN f f2 g p (m+1) dn tt) (fun d _ _=>(intOf d).toNat)
   case atStart=>exact ⟨dn,t1,f1,rfl,rfl,T7.out,K7.out,N7.out⟩
   case round=>
    obtain ⟨d2,tt,f2,rfl,rfl,htt,hS,hN⟩:=hrel
    clear K7 N7 T7
    have KS:Hid _:=hS
    have KN:Hid _:=hN
    clear hN
    rcases tt with _ | tt
    ·have hc:=hS.q.cell p
     rw[agG,if_pos (by omega)] at hc
     have hz:=hS.q.frozen p
     have hl:=hS.q.lt
     clear hS
     go_wp2
     go_roundw
     case rel=>
      obtain ⟨v1,v2⟩:=KK.out.V
      refine ⟨p,f2,upd q p d2,by omega,by go_num,?_,KI.out.step hp16 v1 v2 KN.out⟩
      have:=KS.out.quot B0.out p d2
      rw[cast_mod,Nat.mod_eq_of_lt KN.out.hd]
      exact this
     case measure=>simp[intOf];try omega
    ·have htt0:tt=0:=by omega
     subst htt0
     have hd1:0<d2:=Nat.lt_of_le_of_lt (Nat.zero_le _) (KN.out.gt KK.out.V.1 (by omega))
     have hdw:IntKind.u64.wrap ((d2:Int)-1)=((d2-1:Nat):Int):=by
      have:=KN.out.hd
      simp only[IntKind.wrap_u64];unfold D at this;omega
     clear hS
     go_upto_region 18 with fail
     have S8:=KS.out
     refine wp_region_lit ?_
     refine wpList_rload' rfl 169 (.tmp 12) rfl bl rfl .u32 17 f2 S8.l Tryz.underlying169 (by kernel_rfl) ?_
     refine wpList_rload' rfl 159 (.tmp 11) rfl bb rfl .u32 8 g S8.y Tryz.underlying159 (by kernel_rfl) ?_
     go_wp2_with fail
     refine (put_raw f2 g p (m+1) (by omega) (by omega) KN.out.hf KK.out.gd _).mono ?_
     rintro e w9 ⟨⟨f3,t2,he,ht2,hPO⟩,hb9⟩
     obtain ⟨c3,hc3⟩:∃ c,c=ag .u32 17 f3:=⟨_,rfl⟩
     have he':e=.returned (.tuple #[.agg c3,.bool (decide (t2≠0))]):=by rw[he,hc3]
     subst he'
     have S9:=S8.call hb9
     have hz17:c3.size=17:=by rw[hc3];exact agS _ _ _
     have hsc:=rSv (P:=Tryz.prog) (⟨hc3⟩:IsRow c3 .u32 17 f3) (g:=bl) 169 (by kernel_rfl) (StoreTo.row S9.l (agS _ _ _))
     have K9:Hid _:=S9.left B0.out f3
     have N9:Hid _:=KN.out.back KK.out.V.1 (by omega) hPO ht2
     have T9:Hid (t2≤1):=ht2
     clear he hb9 S8 S9 hPO hc3 ht2
     go_wp2
     go_roundw
     case rel=>
      refine ⟨d2-1,1-t2,f3,rfl,?_,by omega,K9.out,N9.out⟩
      have:=T9.out
      rcases Nat.lt_or_ge t2 1 with h0 | h0
      ·have:t2=0:=by omega
       subst this;rfl
      ·have:t2=1:=by omega
       subst this;rfl
     case measure=>simp[intOf];try omega
end
section
open Go.RowKit Go.Sort
theorem bitLen_lt:∀ (k x:Nat),x<2^k→k≤64→x<2^Lib.bitLen x
 | 0,x,h,_=>by
  have:x=0:=by simpa using h
  subst this;decide
 | k+1,x,h,hk=>by
  by_cases h0:x=0
  ·subst h0;decide
  ·have h64:x<2^64:=Nat.lt_of_lt_of_le h (Nat.pow_le_pow_right (by decide) hk)
   rw[Lib.bitLen_half x h0 h64,Nat.pow_add]
   have h2:x/2<2^k:=by rw[Nat.pow_succ] at h;omega
   have:=bitLen_lt k (x/2) h2 (by omega)
   omega
theorem bitsN_lt(n:Nat)(hn:n<W):n<2^bitsN n:=by
 have hM:M=2^64:=by decide
 have key:∀ x d:Nat,0<d→x=n/d→x<M→n<2^Lib.bitLen x*d:=by
  intro x d hd hx hlt
  rw[hM] at hlt
  have:=bitLen_lt 64 x hlt (by decide)
  generalize 2^Lib.bitLen x=p at *
  rw[hx] at this
  exact (Nat.div_lt_iff_lt_mul hd).1 this
 have e3:l3 n=n/(M*M*M):=by
  unfold l3
  exact Nat.mod_eq_of_lt (Nat.div_lt_of_lt_mul (by rw[← W_eq];exact hn))
 have p1:∀ b,2^(64+b)=2^b*M:=fun b=>by have:=pow_q 1 b;rw[Nat.mul_one,Nat.pow_one] at this;exact this
 have p2:∀ b,2^(128+b)=2^b*(M*M):=fun b=>by have:=pow_q 2 b;rw[show M^2=M*M from by decide +kernel] at this;exact this
 have p3:∀ b,2^(192+b)=2^b*(M*M*M):=fun b=>by have:=pow_q 3 b;rw[show M^3=M*M*M from by decide +kernel] at this;exact this
 unfold bitsN bits4
 by_cases h3:l3 n=0
 ·rw[if_pos h3]
  have z3:n<M*M*M:=by
   rw[e3] at h3
   exact (Nat.div_eq_zero_iff_lt (by decide)).1 h3
  have e2:l2 n=n/(M*M):=by
   unfold l2
   exact Nat.mod_eq_of_lt (Nat.div_lt_of_lt_mul z3)
  by_cases h2:l2 n=0
  ·rw[if_pos h2]
   have z2:n<M*M:=by
    rw[e2] at h2
    exact (Nat.div_eq_zero_iff_lt (by decide)).1 h2
   have e1:l1 n=n/M:=by
    unfold l1
    exact Nat.mod_eq_of_lt (Nat.div_lt_of_lt_mul z2)
   by_cases h1:l1 n=0
   ·rw[if_pos h1]
    have z1:n<M:=by
     rw[e1] at h1
     exact (Nat.div_eq_zero_iff_lt (by decide)).1 h1
    have e0:l0 n=n:=by unfold l0;exact Nat.mod_eq_of_lt z1
    by_cases h0:l0 n=0
    ·rw[if_pos h0,← e0,h0];decide
    ·rw[if_neg h0,e0]
     have:=key n 1 (by decide) (by rw[Nat.div_one]) z1
     rwa [Nat.mul_one] at this
   ·rw[if_neg h1,p1]
    exact key _ _ (by decide) e1 (l1_lt n)
  ·rw[if_neg h2,p2]
   exact key _ _ (by decide) e2 (l2_lt n)
 ·rw[if_neg h3,p3]
  exact key _ _ (by decide) e3 (l3_lt n)
theorem bitsN_spec(n:Nat)(hn:n<W)(h0:0<n):0<bitsN n∧bitsN n≤256∧2^(bitsN n-1)≤n∧n<2^bitsN n:=by
 have h1:=bitsN_lt n hn
 have hp:0<bitsN n:=by
  rcases Nat.eq_zero_or_pos (bitsN n) with h | h
  ·rw[h] at h1;simp at h1;omega
  ·exact h
 refine ⟨hp,bitsN_le n 256 (by rw[← W_two];exact hn),?_,h1⟩
 rcases Nat.lt_or_ge n (2^(bitsN n-1)) with h | h
 ·have:=bitsN_le n _ h;omega
 ·exact h
def dq (high low m:Nat):Nat:=(high*W+low)/m%W
def dr (high low m:Nat):Nat:=if m=0 then 0 else (high*W+low)%m
theorem divide_pos(high low dv:Nat)(hh:high<W)(hl:low<W)(hd:dv<W)(h0:0<dv)(w:World) :
  Calls Tryz.prog 153 #[U high,U low,U dv] w fun e w'=>e=.returned (.tuple #[U (dq high low dv),U (dr high low dv)])∧Below w.heap.size w w':=by
 obtain ⟨z0,z1,z2,z3⟩:=bitsN_spec dv hd h0
 obtain ⟨m,hm⟩:∃ m,m=(bitsN dv-1)/32:=⟨_,rfl⟩
 obtain ⟨s,hs⟩:∃ s,s=(m+1)*32-bitsN dv:=⟨_,rfl⟩
 have hm8:m<8:=by omega
 have hs32:s<32:=by omega
 have hV1:dv*2^s<D^(m+1):=by
  rw[D_two]
  have:dv*2^s<2^bitsN dv*2^s:=Nat.mul_lt_mul_of_pos_right z3 (Nat.two_pow_pos s)
  rw[← Nat.pow_add,show bitsN dv+s=32*(m+1) by omega] at this
  exact this
 have hVW:dv*2^s<W:=by
  rw[W_D]
  exact Nat.lt_of_lt_of_le hV1 (Nat.pow_le_pow_right D_pos (by omega))
 have eV:shlW dv s=dv*2^s:=Nat.mod_eq_of_lt hVW
 have hV2:D^m≤dv*2^s:=by
  have h1:2^(bitsN dv-1)*2^s≤dv*2^s:=Nat.mul_le_mul_right _ z2
  rw[← Nat.pow_add] at h1
  refine Nat.le_trans ?_ h1
  rw[D_two]
  exact Nat.pow_le_pow_right (by decide) (by omega)
 have hdm:D^m≤dv:=by
  refine Nat.le_trans ?_ z2
  rw[D_two]
  exact Nat.pow_le_pow_right (by decide) (by omega)
 have gm:0<dg (dv*2^s) m:=by
  unfold dg
  rw[Nat.mod_eq_of_lt (Nat.div_lt_of_lt_mul (by rw[← Nat.pow_succ];exact hV1))]
  exact Nat.div_pos hV2 (Dp m)
 have vV:vl (dg (dv*2^s)) 0 (m+1)=dv*2^s:=vl_dg_lt hV1
 have hY:high*W+low<D^16:=by
  have:D^16=W*W:=by rw[W_D,← Nat.pow_add]
  rw[this]
  have:high*W+W≤W*W:=by
   rw[← Nat.succ_mul];exact Nat.mul_le_mul_right _ hh
  omega
 have hX:(high*W+low)*2^s<dv*2^s*D^(16-m):=by
  rw[Nat.mul_assoc,Nat.mul_comm (2^s),← Nat.mul_assoc]
  refine Nat.mul_lt_mul_of_pos_right (Nat.lt_of_lt_of_le hY ?_) (Nat.two_pow_pos s)
  have:D^m*D^(16-m)≤dv*D^(16-m):=Nat.mul_le_mul_right _ hdm
  rwa [← Nat.pow_add,show m+(16-m)=16 by omega] at this
 have C:=divide_raw high low dv (bitsN dv) m s (dv*2^s) ((high*W+low)*2^s) (dg (dv*2^s)) (fun f=>(∀ i,i<17→f i<D)∧vl f 0 17=(high*W+low)*2^s)
  z0 z1 (by omega) (by omega) ⟨hm8,fun i _=>dg_lt _ _,gm⟩ (bits_any dv) (fun w=>by have:=shl_any dv s hd w;rwa [eV] at this) (split_any _) (shifted_any high low s hh hl hs32)
  (fun f hf=>by rw[vV];exact DI.start (by omega) hf.1 hf.2 hX) w
 refine C.mono ?_
 rintro e w' ⟨⟨f,q,hI,rfl⟩,hb⟩
 refine ⟨?_,hb⟩
 rw[vV] at hI
 have hv:=hI.hv
 have hlt:=hI.hl
 simp only[Nat.sub_zero,Nat.pow_zero,Nat.mul_one] at hv hlt
 have f8:vl f 0 8=vl f 0 17:=by
  have h1:=vl_mod (f:=f) (k:=0) (a:=8) (b:=9) (fun i hi=>hI.hf _ (by omega))
  rw[← W_D] at h1
  have h2:vl f 0 (8+9)%W=vl f 0 17:=Nat.mod_eq_of_lt (Nat.lt_trans hlt hVW)
  rw[h2] at h1
  exact h1.symm
 have q8:vl q 0 8=vl q 0 16%W:=by
  have h1:=vl_mod (f:=q) (k:=0) (a:=8) (b:=8) (fun i hi=>hI.hqd _ (by omega))
  rw[← W_D] at h1
  exact h1.symm
 rw[f8,q8]
 generalize vl f 0 17=L at *
 generalize vl q 0 16=Q at *
 generalize hYY:high*W+low=Y at *
 have hp:0<2^s:=Nat.two_pow_pos s
 have hr:L=2^s*(Y-Q*dv):=by
  rw[← Nat.mul_assoc] at hv
  have:2^s*(Y-Q*dv)=Y*2^s-Q*dv*2^s:=by rw[Nat.mul_comm,Nat.sub_mul]
  rw[this];omega
 have hsh:shrW L s=Y-Q*dv:=by
  unfold shrW
  rw[hr,Nat.mul_div_cancel_left _ hp]
 have hle:Q*dv≤Y:=by
  have:Q*dv*2^s≤Y*2^s:=by rw[hv,Nat.mul_assoc];omega
  exact Nat.le_of_mul_le_mul_right this hp
 have hlt2:Y-Q*dv<dv:=by
  have:2^s*(Y-Q*dv)<2^s*dv:=by rw[← hr,Nat.mul_comm (2^s) dv];exact hlt
  exact Nat.lt_of_mul_lt_mul_left this
 have hQ:Q=Y/dv:=by
  have h1:Q≤Y/dv:=(Nat.le_div_iff_mul_le h0).2 hle
  have h2:Y/dv<Q+1:=(Nat.div_lt_iff_lt_mul h0).2 (by rw[Nat.add_mul];omega)
  omega
 have hR:Y-Q*dv=Y%dv:=by
  have:=Nat.div_add_mod Y dv
  rw[← hQ,Nat.mul_comm] at this
  omega
 rw[hsh,hR,hQ]
 unfold dq dr
 rw[if_neg (by omega),hYY]
end
end Go.Proofs.YtfhppenjbmmadaaGreatDoor
