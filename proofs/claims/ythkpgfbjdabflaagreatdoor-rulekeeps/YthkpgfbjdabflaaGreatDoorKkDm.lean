/- Laid one behind the other: Dm, Dv, Da, Dc. -/
import Derived.Test.YthkpgfbjdabflaaGreatDoorKkGu
import Derived.WalkMore
import Derived.Test.YthkpgfbjdabflaaGreatDoorKkEq
namespace Go.Proofs.YthkpgfbjdabflaaGreatDoor
open Go.RowKit Go.Sort Tryz
set_option linter.unusedVariables false
set_option maxRecDepth 100000
set_option maxHeartbeats 4000000
structure IN (f f' g:Nat→Nat) (p n d tt:Nat):Prop where
 hf:∀ i,i<17→f' i<D
 ho:∀ i,i<p∨p+n<i→f' i=f i
 hv:vl f' p (n+1)+d*vl g 0 n=vl f p (n+1)+tt*D^(n+1)
 hq:vl f p (n+1)/vl g 0 n≤d
 hd:d<D
theorem IN.ofTO{f f' g:Nat→Nat}{p n d t:Nat}(h:TO f f' g d p n t)(hq:vl f p (n+1)/vl g 0 n≤d)(hd:d<D):IN f f' g p n d t:=⟨h.hf,h.ho,h.hv,hq,hd⟩
theorem IN.gt{f f' g:Nat→Nat}{p n d:Nat}(h:IN f f' g p n d 1)(hV:0<vl g 0 n)(hp:p+n<17):vl f p (n+1)/vl g 0 n<d:=by
 have h1:vl f' p (n+1)<D^(n+1):=vl_lt fun i hi=>h.hf _ (by omega)
 have h2:=h.hv;rw[Nat.div_lt_iff_lt_mul hV];omega
theorem IN.back{f f' f'' g:Nat→Nat}{p n d t2:Nat}(h:IN f f' g p n d 1)(hV:0<vl g 0 n)(hp:p+n<17)(h2:PbO f' f'' g p n t2)(ht:t2≤1):IN f f'' g p n (d-1) (1-t2) where
 hf:=h2.hf
 ho i hi:=by rw[h2.ho i hi,h.ho i hi]
 hv:=by
  have hg:=Nat.lt_of_le_of_lt (Nat.zero_le _) (h.gt hV hp);obtain⟨d',rfl⟩:∃ d',d=d'+1:=⟨d-1,by omega⟩
  have e1:=h.hv;have e2:=h2.hv;rw[Nat.add_sub_cancel];rw[Nat.add_mul,Nat.one_mul]at e1;rcases Nat.lt_or_ge t2 1 with h0|h0
  ·have:t2=0:=by omega
   subst this;rw[Nat.zero_mul]at e2;omega
  ·have:t2=1:=by omega
   subst this;omega
 hq:=Nat.le_sub_one_of_lt (h.gt hV hp)
 hd:=by have:=h.hd;omega
structure DmI (X V:Nat) (f q:Nat→Nat) (t:Nat):Prop where
 hf:∀ i,i<17→f i<D
 hqd:∀ i,i<16→q i<D
 hv:X=vl q t (16-t)*D^t*V+vl f 0 17
 hl:vl f t (17-t)<V
theorem DmI.start{X V:Nat}{f:Nat→Nat}{t:Nat}(ht:t≤16)(hf:∀ i,i<17→f i<D)(hX:vl f 0 17=X)(hlt:X<V*D^t):DmI X V f (fun _=>0) t where
 hf:=hf
 hqd _ _:=zat
 hv:=by rw[zaa (fun _ _=>rfl),Nat.zero_mul,Nat.zero_mul,Nat.zero_add,hX]
 hl:=by
  have h:=vl_div (f:=f) (k:=0) (a:=t) (b:=17-t) (fun i hi=>hf _ (by omega));rw[show t+(17-t)=17 by omega,hX,Nat.zero_add]at h;rw[← h];exact Nat.div_lt_of_lt_mul (by rw[Nat.mul_comm];exact hlt)
theorem DmI.top{X V:Nat}{f q:Nat→Nat}{p n:Nat}(h:DmI X V f q (p+1))(hp:p+n≤16)(hV:V<D^n):∀ i,p+n<i→i<17→f i=0:=by
 have hl:=h.hl;rw[show 17-(p+1)=n+(16-p-n) by omega,zac]at hl;have h0:vl f (p+1+n) (16-p-n)=0:=by
  rcases Nat.eq_zero_or_pos (vl f (p+1+n) (16-p-n))with h0|h0
  ·exact h0
  ·have:=Nat.le_mul_of_pos_right (D^n) h0;omega
 intro i hi hi2;have:=vl_zero h0 (i-(p+1+n)) (by omega)
 rwa [show p+1+n+(i-(p+1+n))=i by omega]at this
theorem DmI.window{X V:Nat}{f q:Nat→Nat}{p n:Nat}(h:DmI X V f q (p+1))(hp:p+n≤16)(hV:V<D^n):vl f p (n+1)<D*V:=by
 have hz:=h.top hp hV;have hl:=h.hl;rw[show 17-(p+1)=n+(16-p-n) by omega,zac,zaa (k:=p+1+n) (fun i hi=>hz _ (by omega) (by omega)),Nat.mul_zero,Nat.add_zero]at hl;rw[vl_low];have h1:=h.hf p (by omega);have h2:D*vl f (p+1) n+D≤D*V:=by rw[← Nat.mul_succ];exact Nat.mul_le_mul_left _ hl
 omega
theorem step_ring(Q V r A P d:Nat):Q*(P*D)*V+(A+P*(r+d*V))=(d+D*Q)*P*V+(A+P*r):=by
 generalize D=B;have e1:B*Q*P*V=Q*(P*B)*V:=by rw[Nat.mul_comm B Q,Nat.mul_assoc Q B P,Nat.mul_comm B P]
 have e2:d*P*V=P*(d*V):=by rw[Nat.mul_comm d P,Nat.mul_assoc]
 rw[Nat.add_mul,Nat.add_mul,Nat.mul_add,e1,e2];omega
theorem DmI.step{X:Nat}{f f' g q:Nat→Nat}{p n d:Nat}(h:DmI X (vl g 0 n) f q (p+1))(hp:p+n≤16)(hV:0<vl g 0 n)(hVn:vl g 0 n<D^n)(hi:IN f f' g p n d 0):DmI X (vl g 0 n) f' (upd q p d) p:=by
 have hz:=h.top hp hVn;have hn0:0<n:=by
  rcases Nat.eq_zero_or_pos n with h0|h0
  ·subst h0;simp[vl]at hV
  ·exact h0
 have e0:vl f' p (n+1)+d*vl g 0 n=vl f p (n+1):=by have:=hi.hv;rw[Nat.zero_mul]at this;exact this
 obtain⟨hd,hr⟩:=quot_of hV e0 hi.hq;have t0:vl f (p+(n+1)) (16-p-n)=0:=zaa fun i hi'=>hz _ (by omega) (by omega)
 have t1:vl f' (p+(n+1)) (16-p-n)=0:=zaa fun i hi'=>by rw[hi.ho _ (by omega)];exact hz _ (by omega) (by omega)
 have w0:vl f p (17-p)=vl f p (n+1):=by rw[show 17-p=(n+1)+(16-p-n) by omega,zac,t0,Nat.mul_zero,Nat.add_zero]
 have w1:vl f' p (17-p)=vl f' p (n+1):=by rw[show 17-p=(n+1)+(16-p-n) by omega,zac,t1,Nat.mul_zero,Nat.add_zero]
 refine⟨hi.hf,upd_lt h.hqd hi.hd,?_,?_⟩
 ·have hX:=h.hv;have s0:=zac f 0 p (17-p);have s1:=zac f' 0 p (17-p);rw[show p+(17-p)=17 by omega,Nat.zero_add]at s0 s1;have lo:vl f' 0 p=vl f 0 p:=zci fun i hi'=>hi.ho _ (by omega)
  have qe:vl (upd q p d) p (16-p)=d+D*vl q (p+1) (16-(p+1)):=by
   rw[show 16-p=(16-(p+1))+1 by omega,vl_low,zbh,vl_upd_above q p d (Nat.lt_succ_self p)]
  rw[hX,s0,s1,lo,w0,w1,qe,← e0,Nat.pow_succ];exact step_ring _ _ _ _ _ _
 ·rw[w1,hr];exact Nat.mod_lt _ hV
structure D0 (w w':World) (hg lw dv:Nat):Prop where
 h:zb w' w.heap.size #[B (l0 hg),B (l1 hg),B (l2 hg),B (l3 hg)]
 l:zb w' (w.heap.size+1) #[B (l0 lw),B (l1 lw),B (l2 lw),B (l3 lw)]
 d:zb w' (w.heap.size+1+1) #[B (l0 dv),B (l1 dv),B (l2 dv),B (l3 dv)]
 r1:zb w' (w.heap.size+1+1+1) #[.int .u64 0,.int .u64 0,.int .u64 0,.int .u64 0]
 r2:zb w' (w.heap.size+1+1+1+1) #[.int .u64 0,.int .u64 0,.int .u64 0,.int .u64 0]
 b:Below w.heap.size w w'
theorem D0.call{w w' w'':World}{hg lw dv:Nat}(h:D0 w w' hg lw dv)(hb:Below w'.heap.size w' w''):D0 w w'' hg lw dv:=
 ⟨h.h.below hb,h.l.below hb,h.d.below hb,h.r1.below hb,h.r2.below hb,h.b.trans (hb.mono h.b.size)⟩
theorem D0.alloc{w w':World}{hg lw dv:Nat}(h:D0 w w' hg lw dv)(o:Obj):D0 w (w'.alloc o) hg lw dv:=
 ⟨h.h.old,h.l.old,h.d.old,h.r1.old,h.r2.old,zj h.b o⟩
structure DV (w w':World) (bb bl bq:Nat) (g f q:Nat→Nat):Prop where
 y:zb w' bb (ag .u32 8 g)
 l:zb w' bl (ag .u32 17 f)
 q:zb w' bq (ag .u32 16 q)
 r1:zb w' (w.heap.size+1+1+1) #[.int .u64 0,.int .u64 0,.int .u64 0,.int .u64 0]
 r2:zb w' (w.heap.size+1+1+1+1) #[.int .u64 0,.int .u64 0,.int .u64 0,.int .u64 0]
 b:Below w.heap.size w w'
structure DB (w:World) (bb bl bq:Nat):Prop where
 h1:w.heap.size+1+1+1+1<bb
 h2:bb<bl
 h3:bl<bq
theorem DV.call{w w' w'':World}{bb bl bq:Nat}{g f q:Nat→Nat}(h:DV w w' bb bl bq g f q)(hb:Below w'.heap.size w' w''):DV w w'' bb bl bq g f q:=
 ⟨h.y.below hb,h.l.below hb,h.q.below hb,h.r1.below hb,h.r2.below hb,h.b.trans (hb.mono h.b.size)⟩
theorem DV.left{w w':World}{bb bl bq:Nat}{g f q:Nat→Nat}(h:DV w w' bb bl bq g f q)(hB:DB w bb bl bq)(f':Nat→Nat):DV w (w'.setRow bl (ag .u32 17 f')) bb bl bq g f' q:=by
 have h1:=hB.h1;have h2:=hB.h2;have h3:=hB.h3;exact⟨h.y.set_other _ (by omega),h.l.set_same _,h.q.set_other _ (by omega),h.r1.set_other _ (by omega),h.r2.set_other _ (by omega),zf h.b (by omega) _⟩
theorem DV.quot{w w':World}{bb bl bq:Nat}{g f q:Nat→Nat}(h:DV w w' bb bl bq g f q)(hB:DB w bb bl bq)(i x:Nat):DV w (w'.setCell ⟨bq,i,none⟩ (.int .u32 (x:Nat))) bb bl bq g f (upd q i x):=by
 have h1:=hB.h1;have h2:=hB.h2;have h3:=hB.h3;rw[h.q.setCell,xr];exact⟨h.y.set_other _ (by omega),h.l.set_other _ (by omega),h.q.set_same _,h.r1.set_other _ (by omega),h.r2.set_other _ (by omega),zf h.b (by omega) _⟩
structure DK (X m:Nat) (g:Nat→Nat):Prop where
 m8:m<8
 gd:∀ i,i<8→g i<D
 gt:0<g m
theorem DK.V{X m:Nat}{g:Nat→Nat}(h:DK X m g):0<vl g 0 (m+1)∧vl g 0 (m+1)<D^(m+1):=by
 refine⟨?_,vl_lt fun i hi=>?_⟩
 ·rw[vl,Nat.zero_add];have:=Nat.mul_pos h.gt (Dp m);omega
 ·rw[Nat.zero_add];exact h.gd i (by have:=h.m8;omega)
theorem guess_ok{X m:Nat}{g f q:Nat→Nat}{p:Nat}(h:DK X m g)(hI:DmI X (vl g 0 (m+1)) f q (p+1))(hp:p+(m+1)≤16) :
  vl f p (m+1+1)/vl g 0 (m+1)≤min ((f (p+(m+1))*D+f (p+m))/g m) (D-1)∧min ((f (p+(m+1))*D+f (p+m))/g m) (D-1)<D:=by
 obtain⟨hV,hVn⟩:=h.V;have h1:=guess_ge (f:=f) (g:=g) (k:=p) (n:=m+1) (fun i hi=>hI.hf _ (by omega)) (by omega) (by simpa using h.gt);simp only[Nat.add_sub_cancel]at h1;have h2:=hI.window hp hVn;have h3:vl f p (m+1+1)/vl g 0 (m+1)<D:=(Nat.div_lt_iff_lt_mul hV).2 h2;have hD:=zat;refine⟨?_,?_⟩
 ·refine Nat.le_min.2 ⟨h1,Nat.le_sub_one_of_lt h3⟩
 ·have:=Nat.min_le_right ((f (p+(m+1))*D+f (p+m))/g m) (D-1);generalize min ((f (p+(m+1))*D+f (p+m))/g m) (D-1)=x at *;omega
structure CZ (w:World) (bl bq s:Nat) (f q:Nat→Nat) (za:Array Bool) (vs:Nat→Value) (w':World):Prop where
 b:Below w.heap.size w w'
 lr:zb w' bl (ag .u32 17 f)
 qr:zb w' bq (ag .u32 16 q)
 c0:za.getD 0 false=true→vs 0=.slice (some ⟨bq,0,none⟩) 8 16
 c1:za.getD 1 false=true→vs 1=U (vl q 0 8)
 c2:za.getD 2 false=true→vs 2=.slice (some ⟨bl,0,none⟩) 8 17
 c3:za.getD 3 false=true→vs 3=U (vl f 0 8)
 c4:za.getD 4 false=true→vs 4=B s
 c5:za.getD 5 false=true→vs 5=U (vw (vl f 0 8) s)
 c6:∃ c,zb w' (w.heap.size+1+1+1) c∧c.size=4∧(za.getD 6 false=true→.agg c=U (vl q 0 8))
 c7:∃ c,zb w' (w.heap.size+1+1+1+1) c∧c.size=4∧(za.getD 7 false=true→.agg c=U (vw (vl f 0 8) s))
theorem divide_raw(hg lw dv sz m s V X:Nat)(g:Nat→Nat)(FP:(Nat→Nat)→Prop)(hsz:0<sz)(hsz2:sz≤256)(hn:((sz:Int)+32-1)/32=(m:Int)+1)(hs:((m:Int)+1)*32-(sz:Int)=(s:Int))(hK:DK X m g)(s1:Hid (∀ w,Calls prog 214 #[U dv] w fun e w'=>e=.returned (.int .i64 (sz:Int))∧Below w.heap.size w w'))(s2:Hid (∀ w,Calls prog 274 #[U dv,B s] w fun e w'=>e=.returned (U V)∧Below w.heap.size w w'))(s3:Hid (∀ w,Calls prog 312 #[U V] w fun e w'=>e=.returned (L8 g)∧Below w.heap.size w w'))(s4:Hid (∀ w,Calls prog 314 #[U hg,U lw,B s] w fun e w'=>(∃ f,FP f∧e=.returned (L17 f))∧Below w.heap.size w w'))(hF:Hid (∀ f,FP f→DmI X (vl g 0 (m+1)) f (fun _=>0) (16-m)))(w:World) :
  Calls prog 295 #[U hg,U lw,U dv] w fun e w'=>
   (∃ f q,DmI X (vl g 0 (m+1)) f q 0∧e=.returned (.tuple #[U (vl q 0 8),U (vw (vl f 0 8) s)]))∧Below w.heap.size w w':=by
 have KK:Hid _:=hK;have hm8:m<8:=hK.m8;clear hK
 go_enter func295,ntmps295
 go_wp2
 go_step3
 go_wp2_with fail
 refine(s1.out _).mono ?_;rintro e w1 ⟨rfl,hb1⟩;have F1:Hid (D0 w w1 hg lw dv):=⟨(zb.old (zb.old (zb.old (zb.old (zb.last rfl))))).below hb1,(zb.old (zb.old (zb.old (zb.last (by simp))))).below hb1,(zb.old (zb.old (zb.last (by simp)))).below hb1,(zb.old (zb.last (by simp))).below hb1,(zb.last (by simp)).below hb1,qo (by(repeat(first|exact Below.refl _ _|refine zj ?_ _))) hb1⟩
 clear hb1;have g0:=F1.out.d.cell 0;have g1:=F1.out.d.cell 1;have g2:=F1.out.d.cell 2;have g3:=F1.out.d.cell 3;simp at g0 g1 g2 g3;have hz0:((sz:Int) == 0)=false:=by simp;omega
 go_wp2_with fail
 refine(s2.out _).mono ?_;rintro e w2 ⟨rfl,hb2⟩;have F2:Hid _:=F1.out.call hb2;clear F1 g0 g1 g2 g3 hb2
 go_wp2_with fail
 refine(s3.out _).mono ?_;rintro e w3 ⟨he,hb3⟩;obtain⟨cy,hcy⟩:∃ c,c=ag .u32 8 g:=⟨_,rfl⟩
 have he':e=.returned (.agg cy):=by rw[he,hcy]
 subst he';have F3:Hid _:=F2.out.call hb3;clear F2 hb3 he;have hsz8:cy.size=8:=by rw[hcy];exact yj _ _ _
 have hsc8:=zu (P:=prog) (⟨hcy⟩:IsRow cy .u32 8 g) (g:=w3.heap.size) 246 (by kernel_rfl) (yg.last (w:=w3) (c:=z8) (t:=246) rfl rfl);have g0:=F3.out.h.cell 0;have g1:=F3.out.h.cell 1;have g2:=F3.out.h.cell 2;have g3:=F3.out.h.cell 3;have k0:=F3.out.l.cell 0;have k1:=F3.out.l.cell 1;have k2:=F3.out.l.cell 2;have k3:=F3.out.l.cell 3;simp at g0 g1 g2 g3 k0 k1 k2 k3;have hq4:w.heap.size+1+1+1+1<w3.heap.size:=F3.out.r2.lt;have hqa:w.heap.size<w3.heap.size:=F3.out.h.lt;have hqb:w.heap.size+1<w3.heap.size:=F3.out.l.lt;have HC:Hid _:=hcy;clear hcy
 go_wp2_with fail
 refine(s4.out _).mono ?_;rintro e w4 ⟨⟨f0,hf0,he⟩,hb4⟩;obtain⟨cl,hcl⟩:∃ c,c=ag .u32 17 f0:=⟨_,rfl⟩
 have he':e=.returned (.agg cl):=by rw[he,hcl]
 subst he';have F4:Hid _:=(F3.out.alloc (.cells (ag .u32 8 g) 246)).call hb4;have Y4:Hid (zb w4 w3.heap.size (ag .u32 8 g)):=(zb.last rfl).below hb4;have hq5:w3.heap.size<w4.heap.size:=Y4.out.lt;clear F3 g0 g1 g2 g3 k0 k1 k2 k3 hb4 hsz8 hsc8 HC he hqa hqb;have hsz17:cl.size=17:=by rw[hcl];exact yj _ _ _
 have hsc17:=zu (P:=prog) (⟨hcl⟩:IsRow cl .u32 17 f0) (g:=w4.heap.size) 253 (by kernel_rfl) (yg.last (w:=w4) (c:=z17) (t:=253) rfl rfl);have I0:Hid _:=hF.out f0 hf0;clear hcl hf0
 go_wp2
 go_step3
 go_wp2
 have B0:Hid (DB w w3.heap.size w4.heap.size (w4.heap.size+1)):=⟨hq4,hq5,by omega⟩
 have V0:Hid (DV w ((w4.alloc (Obj.cells (ag .u32 17 f0) 253)).alloc (Obj.cells z16 249)) w3.heap.size w4.heap.size (w4.heap.size+1) g f0 (fun _=>0)):=
  ⟨Y4.out.old.old,(zb.last rfl).old,zb.last (by simp),F4.out.r1.old.old,F4.out.r2.old.old,zj (zj F4.out.b _) _⟩
 clear F4 Y4 hsz17 hsc17 s1 s2 s3 s4 hF;generalize (w4.alloc (Obj.cells (ag .u32 17 f0) 253)).alloc (Obj.cells z16 249)=w5,w3.heap.size=bb at *;generalize hbl:w4.heap.size=bl at *;generalize hbq:bl+1=bq at *;clear hbl hbq hq4 hq5
 go_loopw [14] (fun i w'=>∃(t:Nat) (f q:Nat→Nat),t≤16-m∧i=.int .i64 ((t:Int)-1)∧DV w w' bb bl bq g f q∧DmI X (vl g 0 (m+1)) f q t) (fun i _=>(intOf i+1).toNat)
 case atStart=>exact⟨16-m,f0,fun _=>0,Nat.le_refl _,by(refine congrArg _ ?_;omega),V0.out,I0.out⟩
 case round=>
  obtain⟨t,f,q,ht,rfl,hS,hI⟩:=hrel;clear V0 I0;have KI:Hid _:=hI;have KS:Hid _:=hS;clear hI;rcases t with _|p
  ·rw[show((0:Nat):Int)-1 = -1 by rfl];clear hS
   go_wp2
   have h1:=B0.out.h1;have h2:=B0.out.h2;have h3:=B0.out.h3;have S0:=KS.out;refine kr (by kernel_rfl) (by kernel_rfl) (by kernel_rfl) (CZ w bl bq s f q) ?_ ?_ ?_
   ·refine⟨S0.b.drew,S0.l,S0.q,?_,?_,?_,?_,?_,?_,⟨_,S0.r1,rfl,?_⟩,⟨_,S0.r2,rfl,?_⟩⟩<;>(intro h;simp[Array.getD]at h)
   ·intro za vs a' w' i o hs ho hi hF cc;have hi8:i<8:=by have:=(Array.getElem?_eq_some_iff.1 ho).1;simpa using this
    have hcase:i=0∨i=1∨i=2∨i=3∨i=4∨i=5∨i=6∨i=7:=by omega
    rcases hcase with rfl|rfl|rfl|rfl|rfl|rfl|rfl|rfl
    ·simp at ho;subst ho;have T:=dTz za 0;have hv:a'.eval (.tmp 13)=.pointer (some ⟨bq,0,none⟩):=(hF.old (by kernel_rfl)).trans rfl;refine zt (v:=.slice (some ⟨bq,0,none⟩) 8 16) (w1:=w') (by simp[execOp,go_sem,ev hv]) ⟨_,rfl,⟨cc.b,cc.lr,cc.qr,fun _=>rfl,uz cc.c1,uz cc.c2,uz cc.c3,uz cc.c4,uz cc.c5,by obtain⟨c,h2,h3,h4⟩:=cc.c6;exact⟨c,h2,h3,fun h=>h4 (T 6 (by decide) h)⟩,by obtain⟨c,h2,h3,h4⟩:=cc.c7;exact⟨c,h2,h3,fun h=>h4 (T 7 (by decide) h)⟩⟩⟩
    ·simp at ho;subst ho;have T:=dTz za 1;have hv:=(nwz hF 75 0 1 hi cc.c0)
     refine qm (f:=313) (args:=#[.slice (some ⟨bq,0,none⟩) 8 16]) (v:=U (vl q 0 8)) (by simp[execOp_call_go,ev hv,go_sem]) (join_any bq 0 16 q (fun i h=>KI.out.hqd _ (by omega)) w' cc.qr.lt (fun i h=>by rw[cc.qr.cell,yd,if_pos (by omega),Nat.zero_add])) ?_;intro w'' hb'';exact⟨_,rfl,⟨cc.b.trans (hb''.mono cc.b.size),cc.lr.below hb'',cc.qr.below hb'',uz cc.c0,fun _=>rfl,uz cc.c2,uz cc.c3,uz cc.c4,uz cc.c5,by obtain⟨c,h2,h3,h4⟩:=cc.c6;exact⟨c,h2.below hb'',h3,fun h=>h4 (T 6 (by decide) h)⟩,by obtain⟨c,h2,h3,h4⟩:=cc.c7;exact⟨c,h2.below hb'',h3,fun h=>h4 (T 7 (by decide) h)⟩⟩⟩
    ·simp at ho;subst ho;have T:=dTz za 2;have hv:a'.eval (.tmp 12)=.pointer (some ⟨bl,0,none⟩):=(hF.old (by kernel_rfl)).trans rfl;refine zt (v:=.slice (some ⟨bl,0,none⟩) 8 17) (w1:=w') (by simp[execOp,go_sem,ev hv]) ⟨_,rfl,⟨cc.b,cc.lr,cc.qr,uz cc.c0,uz cc.c1,fun _=>rfl,uz cc.c3,uz cc.c4,uz cc.c5,by obtain⟨c,h2,h3,h4⟩:=cc.c6;exact⟨c,h2,h3,fun h=>h4 (T 6 (by decide) h)⟩,by obtain⟨c,h2,h3,h4⟩:=cc.c7;exact⟨c,h2,h3,fun h=>h4 (T 7 (by decide) h)⟩⟩⟩
    ·simp at ho;subst ho;have T:=dTz za 3;have hv:=(nwz hF 77 2 3 hi cc.c2)
     refine qm (f:=313) (args:=#[.slice (some ⟨bl,0,none⟩) 8 17]) (v:=U (vl f 0 8)) (by simp[execOp_call_go,ev hv,go_sem]) (join_any bl 0 17 f (fun i h=>KI.out.hf _ (by omega)) w' cc.lr.lt (fun i h=>by rw[cc.lr.cell,yd,if_pos (by omega),Nat.zero_add])) ?_;intro w'' hb'';exact⟨_,rfl,⟨cc.b.trans (hb''.mono cc.b.size),cc.lr.below hb'',cc.qr.below hb'',uz cc.c0,uz cc.c1,uz cc.c2,fun _=>rfl,uz cc.c4,uz cc.c5,by obtain⟨c,h2,h3,h4⟩:=cc.c6;exact⟨c,h2.below hb'',h3,fun h=>h4 (T 6 (by decide) h)⟩,by obtain⟨c,h2,h3,h4⟩:=cc.c7;exact⟨c,h2.below hb'',h3,fun h=>h4 (T 7 (by decide) h)⟩⟩⟩
    ·simp at ho;subst ho;have T:=dTz za 4;have hv:a'.eval (.tmp 10)=B s:=(hF.old (by kernel_rfl)).trans rfl;refine zt (v:=B s) (w1:=w') (by simp[execOp,go_sem,ev hv]) ⟨_,rfl,⟨cc.b,cc.lr,cc.qr,uz cc.c0,uz cc.c1,uz cc.c2,uz cc.c3,fun _=>rfl,uz cc.c5,by obtain⟨c,h2,h3,h4⟩:=cc.c6;exact⟨c,h2,h3,fun h=>h4 (T 6 (by decide) h)⟩,by obtain⟨c,h2,h3,h4⟩:=cc.c7;exact⟨c,h2,h3,fun h=>h4 (T 7 (by decide) h)⟩⟩⟩
    ·simp at ho;subst ho;have T:=dTz za 5;have hv1:=(nwz hF 78 3 5 hi cc.c3)
     have hv2:=(nwz hF 79 4 5 hi cc.c4)
     refine qm (f:=275) (args:=#[U (vl f 0 8),B s]) (v:=U (vw (vl f 0 8) s)) (by simp[execOp_call_go,ev hv1,ev hv2,go_sem]) (shr_any (vl f 0 8) s (by rw[W_D];exact vl_lt fun i hi=>by rw[Nat.zero_add];exact KI.out.hf i (by omega)) w') ?_;intro w'' hb'';exact⟨_,rfl,⟨cc.b.trans (hb''.mono cc.b.size),cc.lr.below hb'',cc.qr.below hb'',uz cc.c0,uz cc.c1,uz cc.c2,uz cc.c3,uz cc.c4,fun _=>rfl,by obtain⟨c,h2,h3,h4⟩:=cc.c6;exact⟨c,h2.below hb'',h3,fun h=>h4 (T 6 (by decide) h)⟩,by obtain⟨c,h2,h3,h4⟩:=cc.c7;exact⟨c,h2.below hb'',h3,fun h=>h4 (T 7 (by decide) h)⟩⟩⟩
    ·simp at ho;subst ho;have T:=dTz za 6;have hv:=(nwz hF 76 1 6 hi cc.c1)
     have hx:a'.eval (.tmp 6)=.pointer (some ⟨(w.heap.size+1+1+1),0,none⟩):=(hF.old (by kernel_rfl)).trans rfl;obtain⟨c,h2,h3,h4⟩:=cc.c6;obtain⟨c',k2,k3,k4⟩:=cc.c7
     refine zb5 45 (.tmp 6) (.tmp 76) rfl (w.heap.size+1+1+1) (c':=#[B (l0 (vl q 0 8)),B (l1 (vl q 0 8)),B (l2 (vl q 0 8)),B (l3 (vl q 0 8))]) hx hv h2 h3 rfl (by simp[Value.oneCell']) (by kernel_rfl) ⟨_,rfl,⟨zf cc.b (by omega) _,cc.lr.set_other _ (by omega),cc.qr.set_other _ (by omega),uz cc.c0,uz cc.c1,uz cc.c2,uz cc.c3,uz cc.c4,uz cc.c5,⟨_,h2.set_same _,rfl,fun _=>rfl⟩,⟨c',k2.set_other _ (by omega),k3,fun h=>k4 (T 7 (by decide) h)⟩⟩⟩
    ·simp at ho;subst ho;have T:=dTz za 7;have hv:=(nwz hF 80 5 7 hi cc.c5)
     have hx:a'.eval (.tmp 7)=.pointer (some ⟨(w.heap.size+1+1+1+1),0,none⟩):=(hF.old (by kernel_rfl)).trans rfl;obtain⟨c,h2,h3,h4⟩:=cc.c7;obtain⟨c',k2,k3,k4⟩:=cc.c6
     refine zb5 45 (.tmp 7) (.tmp 80) rfl (w.heap.size+1+1+1+1) (c':=#[B (l0 (vw (vl f 0 8) s)),B (l1 (vw (vl f 0 8) s)),B (l2 (vw (vl f 0 8) s)),B (l3 (vw (vl f 0 8) s))]) hx hv h2 h3 rfl (by simp[Value.oneCell']) (by kernel_rfl) ⟨_,rfl,⟨zf cc.b (by omega) _,cc.lr.set_other _ (by omega),cc.qr.set_other _ (by omega),uz cc.c0,uz cc.c1,uz cc.c2,uz cc.c3,uz cc.c4,uz cc.c5,⟨c',k2.set_other _ (by omega),k3,fun h=>k4 (T 6 (by decide) h)⟩,⟨_,h2.set_same _,rfl,fun _=>rfl⟩⟩⟩
   ·intro za vs a' w' hd hF cc;obtain⟨c,h2,h3,h4⟩:=cc.c6;obtain⟨c',k2,k3,k4⟩:=cc.c7;have hx4:a'.eval (.tmp 6)=.pointer (some ⟨w.heap.size+1+1+1,0,none⟩):=(hF.old (by kernel_rfl)).trans rfl;have hx5:a'.eval (.tmp 7)=.pointer (some ⟨w.heap.size+1+1+1+1,0,none⟩):=(hF.old (by kernel_rfl)).trans rfl;have hr:=zak (P:=prog) (fn:=Tryz.f295) rfl a' w' hx4 hx5 h2 k2 h3 k3 underlying45 (by kernel_rfl) underlying45 (by kernel_rfl);rw[h4 (hd 6 (by simp)),k4 (hd 7 (by simp))]at hr;have HR:Hid _:=hr;have HB:Hid _:=cc.b;have HD:Hid (a'.defers=[]):=hF.1
    clear hr cc hF hx4 hx5 h2 h3 h4 k2 k3 k4
    go_wp2
    unfold Exit.noGoto;simp only[];exact bodyPost_ret HR.out HD.out ⟨⟨f,q,KI.out,rfl⟩,HB.out⟩
  ·rw[show((p+1:Nat):Int)-1=(p:Int) by omega];have hp16:p+(m+1)≤16:=by omega
   have GO:Hid _:=guess_ok KK.out KI.out hp16
   go_upto_region 12 with fail
   refine wp_region_lit ?_;refine qj rfl 253 (.tmp 12) rfl bl rfl .u32 17 f hS.l underlying253 (by kernel_rfl) ?_;refine qj rfl 246 (.tmp 11) rfl bb rfl .u32 8 g hS.y underlying246 (by kernel_rfl) ?_;clear hS
   go_wp2_with fail
   refine(guess_raw f g p m hm8 (by omega) (KI.out.hf _ (by omega)) (KI.out.hf _ (by omega)) KK.out.gt (KK.out.gd m hm8) _).mono ?_;rintro e w6 ⟨rfl,hb6⟩;have S6:=KS.out.call hb6;clear hb6 KS;generalize min ((f (p+(m+1))*D+f (p+m))/g m) (D-1)=dn at *
   go_upto_region 14 with fail
   refine wp_region_lit ?_;refine qj rfl 253 (.tmp 12) rfl bl rfl .u32 17 f S6.l underlying253 (by kernel_rfl) ?_;refine qj rfl 246 (.tmp 11) rfl bb rfl .u32 8 g S6.y underlying246 (by kernel_rfl) ?_
   go_wp2_with fail
   refine(take_raw f g dn p (m+1) (by omega) (by omega) GO.out.2 KI.out.hf KK.out.gd _).mono ?_;rintro e w7 ⟨⟨f1,t1,he,ht1,hTO⟩,hb7⟩;obtain⟨c1,hc1⟩:∃ c,c=ag .u32 17 f1:=⟨_,rfl⟩
   have he':e=.returned (.tuple #[.agg c1,.bool (decide (t1=0))]):=by rw[he,hc1]
   subst he';have S7:=S6.call hb7;have hz17:c1.size=17:=by rw[hc1];exact yj _ _ _
   have hsc:=zu (P:=prog) (⟨hc1⟩:IsRow c1 .u32 17 f1) (g:=bl) 253 (by kernel_rfl) (yg.row S7.l (yj _ _ _));have K7:Hid _:=S7.left B0.out f1;have N7:Hid _:=IN.ofTO hTO GO.out.1 GO.out.2;have T7:Hid (t1≤1):=ht1;clear he hb7 S6 S7 hTO hc1 ht1
   go_wp2
   clear hsc hz17
   go_loopw [15,16] (fun d b w'=>∃(dn tt:Nat) (f2:Nat→Nat),d=B dn∧b=.bool (decide (tt=0))∧tt≤1∧DV w w' bb bl bq g f2 q∧IN f f2 g p (m+1) dn tt) (fun d _ _=>(intOf d).toNat)
   case atStart=>exact⟨dn,t1,f1,rfl,rfl,T7.out,K7.out,N7.out⟩
   case round=>
    obtain⟨d2,tt,f2,rfl,rfl,htt,hS,hN⟩:=hrel;clear K7 N7 T7;have KS:Hid _:=hS;have KN:Hid _:=hN;clear hN;rcases tt with _|tt
    ·have hc:=hS.q.cell p;rw[yd,if_pos (by omega)]at hc;have hz:=hS.q.frozen p;have hl:=hS.q.lt;clear hS
     go_wp2
     go_roundw
     case rel=>
      obtain⟨v1,v2⟩:=KK.out.V;refine⟨p,f2,upd q p d2,by omega,by go_num,?_,KI.out.step hp16 v1 v2 KN.out⟩;have:=KS.out.quot B0.out p d2;rw[zba,Nat.mod_eq_of_lt KN.out.hd];exact this
     case measure=>simp[intOf];try omega
    ·have htt0:tt=0:=by omega
     subst htt0;have hd1:0<d2:=Nat.lt_of_le_of_lt (Nat.zero_le _) (KN.out.gt KK.out.V.1 (by omega));have hdw:IntKind.u64.wrap ((d2:Int)-1)=((d2-1:Nat):Int):=by
      have:=KN.out.hd;simp only[IntKind.wrap_u64];unfold D at this;omega
     clear hS
     go_upto_region 18 with fail
     have S8:=KS.out;refine wp_region_lit ?_;refine qj rfl 253 (.tmp 12) rfl bl rfl .u32 17 f2 S8.l underlying253 (by kernel_rfl) ?_;refine qj rfl 246 (.tmp 11) rfl bb rfl .u32 8 g S8.y underlying246 (by kernel_rfl) ?_
     go_wp2_with fail
     refine(put_raw f2 g p (m+1) (by omega) (by omega) KN.out.hf KK.out.gd _).mono ?_;rintro e w9 ⟨⟨f3,t2,he,ht2,hPO⟩,hb9⟩;obtain⟨c3,hc3⟩:∃ c,c=ag .u32 17 f3:=⟨_,rfl⟩
     have he':e=.returned (.tuple #[.agg c3,.bool (decide (t2≠0))]):=by rw[he,hc3]
     subst he';have S9:=S8.call hb9;have hz17:c3.size=17:=by rw[hc3];exact yj _ _ _
     have hsc:=zu (P:=prog) (⟨hc3⟩:IsRow c3 .u32 17 f3) (g:=bl) 253 (by kernel_rfl) (yg.row S9.l (yj _ _ _));have K9:Hid _:=S9.left B0.out f3;have N9:Hid _:=KN.out.back KK.out.V.1 (by omega) hPO ht2;have T9:Hid (t2≤1):=ht2;clear he hb9 S8 S9 hPO hc3 ht2
     go_wp2
     go_roundw
     case rel=>
      refine⟨d2-1,1-t2,f3,rfl,?_,by omega,K9.out,N9.out⟩;have:=T9.out;rcases Nat.lt_or_ge t2 1 with h0|h0
      ·have:t2=0:=by omega
       subst this;rfl
      ·have:t2=1:=by omega
       subst this;rfl
     case measure=>simp[intOf];try omega
theorem bitLen_lt:∀(k x:Nat),x<2^k→k≤64→x<2^Lib.bitLen x
 | 0,x,h,_=>by
  have:x=0:=by simpa using h
  subst this;decide
 | k+1,x,h,hk=>by
  by_cases h0:x=0
  ·subst h0;decide
  ·have h64:x<2^64:=Nat.lt_of_lt_of_le h (Nat.pow_le_pow_right (by decide) hk);rw[Lib.bitLen_half x h0 h64,Nat.pow_add];have h2:x/2<2^k:=by rw[Nat.pow_succ]at h;omega
   have:=bitLen_lt k (x/2) h2 (by omega);omega
theorem bitsN_lt(n:Nat)(hn:n<W):n<2^xm n:=by
 have hM:M=2^64:=by decide
 have key:∀ x d:Nat,0<d→x=n/d→x<M→n<2^Lib.bitLen x*d:=by
  intro x d hd hx hlt;rw[hM]at hlt;have:=bitLen_lt 64 x hlt (by decide);generalize 2^Lib.bitLen x=p at *;rw[hx]at this;exact(Nat.div_lt_iff_lt_mul hd).1 this
 have e3:l3 n=n/(M*M*M):=by
  unfold l3;exact Nat.mod_eq_of_lt (Nat.div_lt_of_lt_mul (by rw[← W_eq];exact hn))
 have p1:∀ b,2^(64+b)=2^b*M:=fun b=>by have:=pow_q 1 b;rw[Nat.mul_one,Nat.pow_one]at this;exact this
 have p2:∀ b,2^(128+b)=2^b*(M*M):=fun b=>by have:=pow_q 2 b;rw[show M^2=M*M from by decide +kernel]at this;exact this
 have p3:∀ b,2^(192+b)=2^b*(M*M*M):=fun b=>by have:=pow_q 3 b;rw[show M^3=M*M*M from by decide +kernel]at this;exact this
 unfold xm bits4;by_cases h3:l3 n=0
 ·rw[if_pos h3];have z3:n<M*M*M:=by
   rw[e3]at h3;exact(Nat.div_eq_zero_iff_lt (by decide)).1 h3
  have e2:l2 n=n/(M*M):=by
   unfold l2;exact Nat.mod_eq_of_lt (Nat.div_lt_of_lt_mul z3)
  by_cases h2:l2 n=0
  ·rw[if_pos h2];have z2:n<M*M:=by
    rw[e2]at h2;exact(Nat.div_eq_zero_iff_lt (by decide)).1 h2
   have e1:l1 n=n/M:=by
    unfold l1;exact Nat.mod_eq_of_lt (Nat.div_lt_of_lt_mul z2)
   by_cases h1:l1 n=0
   ·rw[if_pos h1];have z1:n<M:=by
     rw[e1]at h1;exact(Nat.div_eq_zero_iff_lt (by decide)).1 h1
    have e0:l0 n=n:=by unfold l0;exact Nat.mod_eq_of_lt z1
    by_cases h0:l0 n=0
    ·rw[if_pos h0,← e0,h0];decide
    ·rw[if_neg h0,e0];have:=key n 1 (by decide) (by rw[Nat.div_one]) z1
     rwa [Nat.mul_one]at this
   ·rw[if_neg h1,p1];exact key _ _ (by decide) e1 (yh n)
  ·rw[if_neg h2,p2];exact key _ _ (by decide) e2 (yn n)
 ·rw[if_neg h3,p3];exact key _ _ (by decide) e3 (yu n)
theorem bitsN_spec(n:Nat)(hn:n<W)(h0:0<n):0<xm n∧xm n≤256∧2^(xm n-1)≤n∧n<2^xm n:=by
 have h1:=bitsN_lt n hn;have hp:0<xm n:=by
  rcases Nat.eq_zero_or_pos (xm n)with h|h
  ·rw[h]at h1;simp at h1;omega
  ·exact h
 refine⟨hp,zbn n 256 (by rw[← W_two];exact hn),?_,h1⟩;rcases Nat.lt_or_ge n (2^(xm n-1))with h|h
 ·have:=zbn n _ h;omega
 ·exact h
def dq (high low m:Nat):Nat:=(high*W+low)/m%W
def dr (high low m:Nat):Nat:=if m=0 then 0 else(high*W+low)%m
theorem divide_pos(high low dv:Nat)(hh:high<W)(hl:low<W)(hd:dv<W)(h0:0<dv)(w:World) :
  Calls prog 295 #[U high,U low,U dv] w fun e w'=>e=.returned (.tuple #[U (dq high low dv),U (dr high low dv)])∧Below w.heap.size w w':=by
 obtain⟨z0,z1,z2,z3⟩:=bitsN_spec dv hd h0;obtain⟨m,hm⟩:∃ m,m=(xm dv-1)/32:=⟨_,rfl⟩
 obtain⟨s,hs⟩:∃ s,s=(m+1)*32-xm dv:=⟨_,rfl⟩
 have hm8:m<8:=by omega
 have hs32:s<32:=by omega
 have hV1:dv*2^s<D^(m+1):=by
  rw[D_two];have:dv*2^s<2^xm dv*2^s:=Nat.mul_lt_mul_of_pos_right z3 (Nat.two_pow_pos s);rw[← Nat.pow_add,show xm dv+s=32*(m+1) by omega]at this;exact this
 have hVW:dv*2^s<W:=by
  rw[W_D];exact Nat.lt_of_lt_of_le hV1 (Nat.pow_le_pow_right zat (by omega))
 have eV:shlW dv s=dv*2^s:=Nat.mod_eq_of_lt hVW;have hV2:D^m≤dv*2^s:=by
  have h1:2^(xm dv-1)*2^s≤dv*2^s:=Nat.mul_le_mul_right _ z2;rw[← Nat.pow_add]at h1;refine Nat.le_trans ?_ h1;rw[D_two];exact Nat.pow_le_pow_right (by decide) (by omega)
 have hdm:D^m≤dv:=by
  refine Nat.le_trans ?_ z2;rw[D_two];exact Nat.pow_le_pow_right (by decide) (by omega)
 have gm:0<dg (dv*2^s) m:=by
  unfold dg;rw[Nat.mod_eq_of_lt (Nat.div_lt_of_lt_mul (by rw[← Nat.pow_succ];exact hV1))];exact Nat.div_pos hV2 (Dp m)
 have vV:vl (dg (dv*2^s)) 0 (m+1)=dv*2^s:=zd6 hV1;have hY:high*W+low<D^16:=by
  have:D^16=W*W:=by rw[W_D,← Nat.pow_add]
  rw[this];have:high*W+W≤W*W:=by
   rw[← Nat.succ_mul];exact Nat.mul_le_mul_right _ hh
  omega
 have hX:(high*W+low)*2^s<dv*2^s*D^(16-m):=by
  rw[Nat.mul_assoc,Nat.mul_comm (2^s),← Nat.mul_assoc];refine Nat.mul_lt_mul_of_pos_right (Nat.lt_of_lt_of_le hY ?_) (Nat.two_pow_pos s);have:D^m*D^(16-m)≤dv*D^(16-m):=Nat.mul_le_mul_right _ hdm
  rwa [← Nat.pow_add,show m+(16-m)=16 by omega]at this
 have C:=divide_raw high low dv (xm dv) m s (dv*2^s) ((high*W+low)*2^s) (dg (dv*2^s)) (fun f=>(∀ i,i<17→f i<D)∧vl f 0 17=(high*W+low)*2^s)
  z0 z1 (by omega) (by omega) ⟨hm8,fun i _=>dg_lt _ _,gm⟩ (zcg dv) (fun w=>by have:=shl_any dv s hd w;rwa [eV]at this) (za5 _) (shifted_any high low s hh hl hs32)
  (fun f hf=>by rw[vV];exact DmI.start (by omega) hf.1 hf.2 hX) w
 refine C.mono ?_;rintro e w' ⟨⟨f,q,hI,rfl⟩,hb⟩;refine⟨?_,hb⟩;rw[vV]at hI;have hv:=hI.hv;have hlt:=hI.hl;simp only[Nat.sub_zero,Nat.pow_zero,Nat.mul_one]at hv hlt;have f8:vl f 0 8=vl f 0 17:=by
  have h1:=vl_mod (f:=f) (k:=0) (a:=8) (b:=9) (fun i hi=>hI.hf _ (by omega));rw[← W_D]at h1;have h2:vl f 0 (8+9)%W=vl f 0 17:=Nat.mod_eq_of_lt (Nat.lt_trans hlt hVW);rw[h2]at h1;exact h1.symm
 have q8:vl q 0 8=vl q 0 16%W:=by
  have h1:=vl_mod (f:=q) (k:=0) (a:=8) (b:=8) (fun i hi=>hI.hqd _ (by omega));rw[← W_D]at h1;exact h1.symm
 rw[f8,q8];generalize vl f 0 17=L,vl q 0 16=Q at *;generalize hYY:high*W+low=Y at *;have hp:0<2^s:=Nat.two_pow_pos s;have hr:L=2^s*(Y-Q*dv):=by
  rw[← Nat.mul_assoc]at hv;have:2^s*(Y-Q*dv)=Y*2^s-Q*dv*2^s:=by rw[Nat.mul_comm,Nat.sub_mul]
  rw[this];omega
 have hsh:vw L s=Y-Q*dv:=by
  unfold vw;rw[hr,Nat.mul_div_cancel_left _ hp]
 have hle:Q*dv≤Y:=by
  have:Q*dv*2^s≤Y*2^s:=by rw[hv,Nat.mul_assoc];omega
  exact Nat.le_of_mul_le_mul_right this hp
 have hlt2:Y-Q*dv<dv:=by
  have:2^s*(Y-Q*dv)<2^s*dv:=by rw[← hr,Nat.mul_comm (2^s) dv];exact hlt
  exact Nat.lt_of_mul_lt_mul_left this
 have hQ:Q=Y/dv:=by
  have h1:Q≤Y/dv:=(Nat.le_div_iff_mul_le h0).2 hle;have h2:Y/dv<Q+1:=(Nat.div_lt_iff_lt_mul h0).2 (by rw[Nat.add_mul];omega);omega
 have hR:Y-Q*dv=Y%dv:=by
  have:=Nat.div_add_mod Y dv;rw[← hQ,Nat.mul_comm]at this;omega
 rw[hsh,hR,hQ];unfold dq dr;rw[if_neg (by omega),hYY]
theorem zb8{w:World}{g:Nat}{c:Array Value}(h:zb w g c)(c1 c2:Array Value):(w.setRow g c1).setRow g c2=w.setRow g c2:=by
 obtain⟨t,h⟩:=h;unfold World.setRow
 congr 1
 apply Array.ext_getElem?;intro j;simp only[Array.getElem?_modify];by_cases hj:g=j
 ·subst hj;simp[h]
 ·simp[hj]
theorem set4{w:World}{g:Nat}{c:Array Value}(h:zb w g c)(hn:c.size=4)(a b d e:Value) :
  (((w.setCell ⟨g,0,none⟩ a).setCell ⟨g,1,none⟩ b).setCell ⟨g,2,none⟩ d).setCell ⟨g,3,none⟩ e=w.setRow g #[a,b,d,e]:=by
 rw[h.setCell,(h.set_same _).setCell,zb8 h,(h.set_same _).setCell,zb8 h,(h.set_same _).setCell,zb8 h]
 congr 1
 apply Array.ext_getElem?;intro j;simp only[Array.getElem?_setIfInBounds,Array.size_setIfInBounds,hn];have hc:j=0∨j=1∨j=2∨j=3∨4≤j:=by omega
 rcases hc with rfl|rfl|rfl|rfl|hj
 ·simp
 ·simp
 ·simp
 ·simp
 ·rw[if_neg (by omega),if_neg (by omega),if_neg (by omega),if_neg (by omega),Array.getElem?_eq_none (by omega),Array.getElem?_eq_none (by simpa using hj)]
theorem zdr{P:Program}{fn:Func}{p q:Tmp}{ty ty2:TypeId}(h:fn.results=#[.cell p ty,.cell q ty2]){tmps:Array Value}{w:World}{g g2:Nat}{c c2:Array Value}{n n2:Nat}{e e2:TypeId}(h1:tmps.getD p undef=.pointer (some ⟨g,0,none⟩))(h2:tmps.getD q undef=.pointer (some ⟨g2,0,none⟩))(r1:zb w g c)(r2:zb w g2 c2)(n1:c.size=n)(n2':c2.size=n2)(hu:P.underlying ty=some (.array n e))(hi:(P.info? ty).map (·.size)=some n)(hu2:P.underlying ty2=some (.array n2 e2))(hi2:(P.info? ty2).map (·.size)=some n2) :
  (results fn tmps).run P w=.ok (.tuple #[.agg c,.agg c2]) w:=
 zak (P:=P) (fn:=fn) h { tmps:=tmps,defers:=[] } w h1 h2 r1 r2 n1 n2' hu hi hu2 hi2
theorem wpList_rowL{P:Program}{ops:Array Oper}{rest:List Oper}{o:Oper}{a:Act}{w:World}{Q:Exit→Act→World→Prop}(hgd:o.guard=none)(ty:TypeId)(x:Operand)(ho:o.op=.load ty x)(g:Nat)(hx:a.eval x=.pointer (some ⟨g,0,none⟩)){c:Array Value}{n:Nat}{e:TypeId}(hr:zb w g c)(hn:c.size=n)(hu:P.underlying ty=some (.array n e))(hi:(P.info? ty).map (·.size)=some n)(h:wpList P ops Q rest (a.put o.dst (.agg c)) w):wpList P ops Q (o::rest) a w:=by
 obtain⟨t,hr⟩:=hr;exact wpList_load_row hgd ty x ho g hx t c (0,0) _ hr hu rfl (by rw[hn];exact hi) h
theorem wpList_rowT{P:Program}{ops:Array Oper}{rest:List Oper}{o:Oper}{a:Act}{w:World}{Q:Exit→Act→World→Prop}(hgd:o.guard=none)(ty:TypeId)(x y:Operand)(ho:o.op=.store ty x y)(g:Nat){c c':Array Value}{n:Nat}(hx:a.eval x=.pointer (some ⟨g,0,none⟩))(hy:a.eval y=.agg c')(hr:zb w g c)(hn:c.size=n)(hn':c'.size=n)(h1:c'.all (·.oneCell')=true)(hi:(P.info? ty).map (·.size)=some n)(h:wpList P ops Q rest (a.put o.dst undef) (w.setRow g c')):wpList P ops Q (o::rest) a w:=by
 obtain⟨t,hr⟩:=hr;exact wpList_store_row hgd ty x y ho g c' hx hy t c hr (by rw[hn'];exact hi) (by rw[hn,hn']) h1 h
theorem zero_raw(hg lw dv:Nat)(s1:Hid (∀ w,Calls prog 214 #[U dv] w fun e w'=>e=.returned (.int .i64 0)∧Below w.heap.size w w'))(w:World) :
  Calls prog 295 #[U hg,U lw,U dv] w fun e w'=>e=.returned (.tuple #[I4 0 0 0 0,I4 0 0 0 0])∧Below w.heap.size w w':=by
 go_enter func295,ntmps295
 go_wp2
 go_step3
 go_wp2_with fail
 refine(s1.out _).mono ?_;rintro e w1 ⟨rfl,hb1⟩;have F1:Hid (D0 w w1 hg lw dv):=⟨(zb.old (zb.old (zb.old (zb.old (zb.last rfl))))).below hb1,(zb.old (zb.old (zb.old (zb.last (by simp))))).below hb1,(zb.old (zb.old (zb.last (by simp)))).below hb1,(zb.old (zb.last (by simp))).below hb1,(zb.last (by simp)).below hb1,qo (by(repeat(first|exact Below.refl _ _|refine zj ?_ _))) hb1⟩
 clear hb1;have R1:=F1.out.r1;have R2:=F1.out.r2;have g0:=R1.cell 0;have g1:=R1.cell 1;have g2:=R1.cell 2;have g3:=R1.cell 3;simp at g0 g1 g2 g3;have gz0:=R1.frozen 0;have gz1:=R1.frozen 1;have gz2:=R1.frozen 2;have gz3:=R1.frozen 3;have gq:=R1.lt;have k0:=R2.cell 0;have k1:=R2.cell 1;have k2:=R2.cell 2;have k3:=R2.cell 3;simp at k0 k1 k2 k3;have kz0:=R2.frozen 0;have kz1:=R2.frozen 1;have kz2:=R2.frozen 2;have kz3:=R2.frozen 3;have kq:=R2.lt;have H1:Hid (zb w1 (w.heap.size+1+1+1) #[.int .u64 0,.int .u64 0,.int .u64 0,.int .u64 0]):=R1
 have H2:Hid (zb w1 (w.heap.size+1+1+1+1) #[.int .u64 0,.int .u64 0,.int .u64 0,.int .u64 0]):=R2;clear R1 R2
 go_wp2
 unfold Exit.noGoto;simp only[];have R1:zb w1 (w.heap.size+1+1+1) #[.int .u64 0,.int .u64 0,.int .u64 0,.int .u64 0]:=H1.out;have R2:zb w1 (w.heap.size+1+1+1+1) #[.int .u64 0,.int .u64 0,.int .u64 0,.int .u64 0]:=H2.out;rw[set4 R1 rfl,set4 (R2.set_other _ (by omega)) rfl];have hb:=F1.out.b
 refine bodyPost_ret (v:=.tuple #[I4 0 0 0 0,I4 0 0 0 0]) (zdr (p:=6) (q:=7) (ty:=45) (ty2:=45) rfl (g:=w.heap.size+1+1+1) (g2:=w.heap.size+1+1+1+1) rfl rfl ((R1.set_same _).set_other _ (by omega)) ((R2.set_other _ (by omega)).set_same _) rfl rfl underlying45 (by kernel_rfl) underlying45 (by kernel_rfl)) rfl ⟨rfl,zf (zf hb (by omega) _) (by omega) _⟩
theorem divide_any(high low dv:Nat)(hh:high<W)(hl:low<W)(hd:dv<W)(w:World) :
  Calls prog 295 #[U high,U low,U dv] w fun e w'=>e=.returned (.tuple #[U (dq high low dv),U (dr high low dv)])∧Below w.heap.size w w':=by
 rcases Nat.eq_zero_or_pos dv with h|h
 ·subst h;have e1:dq high low 0=0:=by unfold dq;rw[Nat.div_zero];decide +kernel
  have e2:dr high low 0=0:=rfl;rw[e1,e2,U_zero];exact zero_raw high low 0 (fun w=>by have:=zcg 0 w;rwa [show xm 0=0 by decide +kernel]at this) w
 ·exact divide_pos high low dv hh hl hd h w
theorem div_raw(a b q r:Nat)(c:Hid (∀ w,Calls prog 295 #[I4 0 0 0 0,U a,U b] w fun e w'=>e=.returned (.tuple #[U q,U r])∧Below w.heap.size w w'))(w:World) :
  Calls prog 249 #[U a,U b] w fun e w'=>e=.returned (.tuple #[U q,U r])∧Below w.heap.size w w':=by
 go_enter func249,ntmps249
 go_wp2_with fail
 refine(c.out _).mono ?_;rintro e w1 ⟨rfl,hb1⟩;have R1:zb w1 (w.heap.size+1+1) #[.int .u64 0,.int .u64 0,.int .u64 0,.int .u64 0]:=(zb.old (zb.last (by simp))).below hb1;have R2:zb w1 (w.heap.size+1+1+1) #[.int .u64 0,.int .u64 0,.int .u64 0,.int .u64 0]:=(zb.last (by simp)).below hb1;have HB:Hid (Below w.heap.size w w1):=qo (by(repeat(first|exact Below.refl _ _|refine zj ?_ _))) hb1;clear hb1;have g0:=R1.cell 0;have g1:=R1.cell 1;have g2:=R1.cell 2;have g3:=R1.cell 3;simp at g0 g1 g2 g3;have gz0:=R1.frozen 0;have gz1:=R1.frozen 1;have gz2:=R1.frozen 2
 have gz3:=R1.frozen 3;have gq:=R1.lt;have k0:=R2.cell 0;have k1:=R2.cell 1;have k2:=R2.cell 2;have k3:=R2.cell 3;simp at k0 k1 k2 k3;have kz0:=R2.frozen 0;have kz1:=R2.frozen 1;have kz2:=R2.frozen 2;have kz3:=R2.frozen 3;have kq:=R2.lt;have H1:Hid (zb w1 (w.heap.size+1+1) #[.int .u64 0,.int .u64 0,.int .u64 0,.int .u64 0]):=R1;have H2:Hid (zb w1 (w.heap.size+1+1+1) #[.int .u64 0,.int .u64 0,.int .u64 0,.int .u64 0]):=R2;clear R1 R2
 go_wp2
 have R1:zb w1 (w.heap.size+1+1) #[.int .u64 0,.int .u64 0,.int .u64 0,.int .u64 0]:=H1.out;have R2:zb w1 (w.heap.size+1+1+1) #[.int .u64 0,.int .u64 0,.int .u64 0,.int .u64 0]:=H2.out;rw[set4 R1 rfl,set4 (R2.set_other _ (by omega)) rfl]
 exact bodyPost_ret (v:=.tuple #[U q,U r]) (zdr (p:=4) (q:=5) (ty:=45) (ty2:=45) rfl (g:=w.heap.size+1+1) (g2:=w.heap.size+1+1+1) rfl rfl ((R1.set_same _).set_other _ (by omega)) ((R2.set_other _ (by omega)).set_same _) rfl rfl underlying45 (by kernel_rfl) underlying45 (by kernel_rfl)) rfl ⟨rfl,zf (zf HB.out (by omega) _) (by omega) _⟩
theorem rest_raw(x a b q r:Nat)(c:Hid (∀ w,Calls prog 295 #[U x,U a,U b] w fun e w'=>e=.returned (.tuple #[U q,U r])∧Below w.heap.size w w'))(w:World) :
  Calls prog 297 #[U x,U a,U b] w fun e w'=>e=.returned (U r)∧Below w.heap.size w w':=by
 go_enter func297,ntmps297
 go_wp2_with fail
 refine(c.out _).mono ?_;rintro e w1 ⟨rfl,hb1⟩;have R1:zb w1 (w.heap.size+1+1+1) #[.int .u64 0,.int .u64 0,.int .u64 0,.int .u64 0]:=(zb.last (by simp)).below hb1;have HB:Hid (Below w.heap.size w w1):=qo (by(repeat(first|exact Below.refl _ _|refine zj ?_ _))) hb1;clear hb1;have H1:Hid (zb w1 (w.heap.size+1+1+1) #[.int .u64 0,.int .u64 0,.int .u64 0,.int .u64 0]):=R1;clear R1
 go_upto_region 2 with fail
 have R1:zb w1 (w.heap.size+1+1+1) #[.int .u64 0,.int .u64 0,.int .u64 0,.int .u64 0]:=H1.out;refine wp_region_lit ?_;refine wpList_rowL rfl 45 (.tmp 8) rfl (w1.heap.size+1) rfl (zb.last (by simp)) rfl underlying45 (by kernel_rfl) ?_;refine wpList_rowT rfl 45 (.tmp 6) (.tmp 16) rfl (w.heap.size+1+1+1) rfl rfl (zb.old (zb.old R1)) rfl rfl (by simp[Value.oneCell']) (by kernel_rfl) ?_
 have E1:=(zb.old (o:=Obj.cells #[B (l0 r),B (l1 r),B (l2 r),B (l3 r)] 45) (zb.old (o:=Obj.cells #[B (l0 q),B (l1 q),B (l2 q),B (l3 q)] 45) R1)).set_same #[B (l0 r),B (l1 r),B (l2 r),B (l3 r)];have E2:=zf (zj (zj HB.out (Obj.cells #[B (l0 q),B (l1 q),B (l2 q),B (l3 q)] 45)) (Obj.cells #[B (l0 r),B (l1 r),B (l2 r),B (l3 r)] 45)) (g:=w.heap.size+1+1+1) (by omega) #[B (l0 r),B (l1 r),B (l2 r),B (l3 r)]
 generalize ((w1.alloc (Obj.cells #[B (l0 q),B (l1 q),B (l2 q),B (l3 q)] 45)).alloc (Obj.cells #[B (l0 r),B (l1 r),B (l2 r),B (l3 r)] 45)).setRow (w.heap.size+1+1+1) #[B (l0 r),B (l1 r),B (l2 r),B (l3 r)]=w9 at *;have E3:Hid (zb w9 (w.heap.size+1+1+1) #[B (l0 r),B (l1 r),B (l2 r),B (l3 r)]):=E1;have E4:Hid (Below w.heap.size w w9):=E2;clear E1 E2 R1 H1 HB
 go_wp2
 exact bodyPost_ret (v:=U r) (yr (p:=6) (ty:=45) rfl (g:=w.heap.size+1+1+1) rfl E3.out rfl underlying45 (by kernel_rfl)) rfl ⟨rfl,E4.out⟩
theorem mul_raw(a b q r:Nat)(c:Hid (∀ w,Calls prog 294 #[U a,U b] w fun e w'=>e=.returned (.tuple #[U q,U r])∧Below w.heap.size w w'))(w:World) :
  Calls prog 244 #[U a,U b] w fun e w'=>e=.returned (U r)∧Below w.heap.size w w':=by
 go_enter func244,ntmps244
 go_wp2_with fail
 refine(c.out _).mono ?_;rintro e w1 ⟨rfl,hb1⟩;have R1:zb w1 (w.heap.size+1+1) #[.int .u64 0,.int .u64 0,.int .u64 0,.int .u64 0]:=(zb.last (by simp)).below hb1;have HB:Hid (Below w.heap.size w w1):=qo (by(repeat(first|exact Below.refl _ _|refine zj ?_ _))) hb1;clear hb1;have H1:Hid (zb w1 (w.heap.size+1+1) #[.int .u64 0,.int .u64 0,.int .u64 0,.int .u64 0]):=R1;clear R1
 go_upto_region 2 with fail
 have R1:zb w1 (w.heap.size+1+1) #[.int .u64 0,.int .u64 0,.int .u64 0,.int .u64 0]:=H1.out;refine wp_region_lit ?_;refine wpList_rowL rfl 45 (.tmp 6) rfl (w1.heap.size+1) rfl (zb.last (by simp)) rfl underlying45 (by kernel_rfl) ?_;refine wpList_rowT rfl 45 (.tmp 4) (.tmp 13) rfl (w.heap.size+1+1) rfl rfl (zb.old (zb.old R1)) rfl rfl (by simp[Value.oneCell']) (by kernel_rfl) ?_;have E1:=(zb.old (o:=Obj.cells #[B (l0 r),B (l1 r),B (l2 r),B (l3 r)] 45) (zb.old (o:=Obj.cells #[B (l0 q),B (l1 q),B (l2 q),B (l3 q)] 45) R1)).set_same #[B (l0 r),B (l1 r),B (l2 r),B (l3 r)]
 have E2:=zf (zj (zj HB.out (Obj.cells #[B (l0 q),B (l1 q),B (l2 q),B (l3 q)] 45)) (Obj.cells #[B (l0 r),B (l1 r),B (l2 r),B (l3 r)] 45)) (g:=w.heap.size+1+1) (by omega) #[B (l0 r),B (l1 r),B (l2 r),B (l3 r)];generalize ((w1.alloc (Obj.cells #[B (l0 q),B (l1 q),B (l2 q),B (l3 q)] 45)).alloc (Obj.cells #[B (l0 r),B (l1 r),B (l2 r),B (l3 r)] 45)).setRow (w.heap.size+1+1) #[B (l0 r),B (l1 r),B (l2 r),B (l3 r)]=w9 at *;have E3:Hid (zb w9 (w.heap.size+1+1) #[B (l0 r),B (l1 r),B (l2 r),B (l3 r)]):=E1;have E4:Hid (Below w.heap.size w w9):=E2;clear E1 E2 R1 H1 HB
 go_wp2
 exact bodyPost_ret (v:=U r) (yr (p:=4) (ty:=45) rfl (g:=w.heap.size+1+1) rfl E3.out rfl underlying45 (by kernel_rfl)) rfl ⟨rfl,E4.out⟩
theorem div_any(a b:Nat)(ha:a<W)(hb:b<W):RT 249 #[U a,U b] (.tuple #[U (a/b),U (dr 0 a b)]):=by
 intro w;have e:dq 0 a b=a/b:=by
  unfold dq;rw[Nat.zero_mul,Nat.zero_add];exact Nat.mod_eq_of_lt (Nat.lt_of_le_of_lt (Nat.div_le_self _ _) ha)
 rw[← e];exact div_raw a b _ _ (fun w=>by have:=divide_any 0 a b ku ha hb w;rwa [U_zero]at this) w
theorem rest_any(x a b:Nat)(hx:x<W)(ha:a<W)(hb:b<W)(w:World):Calls prog 297 #[U x,U a,U b] w fun e w'=>e=.returned (U (dr x a b))∧Below w.heap.size w w':=
 rest_raw x a b _ _ (divide_any x a b hx ha hb) w
theorem mul_any(a b:Nat)(ha:a<W)(hb:b<W)(w:World):Calls prog 244 #[U a,U b] w fun e w'=>e=.returned (U (a*b%W))∧Below w.heap.size w w':=
 mul_raw a b _ _ (wide_any a b ha hb) w
end Go.Proofs.YthkpgfbjdabflaaGreatDoor
