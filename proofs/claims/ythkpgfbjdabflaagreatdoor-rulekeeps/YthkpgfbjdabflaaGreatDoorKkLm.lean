/- Laid one behind the other: Mo, Lm, Lo. -/
import Derived.Test.YthkpgfbjdabflaaGreatDoorKkLa1
namespace Go.Proofs.YthkpgfbjdabflaaGreatDoor
open Go.RowKit Go.Sort Tryz
set_option linter.unusedVariables false
set_option maxRecDepth 100000
set_option maxHeartbeats 4000000
def rm (x m:Nat):Nat:=if m=0 then 0 else x%m
theorem zcf(x:Nat){m:Nat}(h:0<m):rm x m=x%m:=if_neg (by omega)
theorem rm_small(x:Nat){m:Nat}(h:0<m):rm x m<m:=by rw[zcf x h];exact Nat.mod_lt _ h
theorem rm_le(x m:Nat):rm x m≤m:=by
 unfold rm;split
 ·omega
 ·exact Nat.le_of_lt (Nat.mod_lt _ (by omega))
theorem rm_lt(x:Nat){m:Nat}(h:m<W):rm x m<W:=Nat.lt_of_le_of_lt (rm_le x m) h
theorem rm_mul(x y m:Nat):rm (rm x m*rm y m) m=rm (x*y) m:=by
 rcases Nat.eq_zero_or_pos m with h|h
 ·subst h;rfl
 ·rw[zcf _ h,zcf _ h,zcf _ h,zcf _ h,← Nat.mul_mod]
theorem rm_mul_left(x y m:Nat):rm (rm x m*y) m=rm (x*y) m:=by
 rcases Nat.eq_zero_or_pos m with h|h
 ·subst h;rfl
 ·rw[zcf _ h,zcf _ h,zcf _ h,Nat.mod_mul_mod]
theorem rm_W(x:Nat):rm x W=x%W:=zcf x (by decide)
theorem pw_sq(a e m:Nat):rm (rm (a^e) m*rm (a^e) m) m=rm (a^(2*e)) m:=by
 rw[rm_mul,← Nat.pow_add,Nat.two_mul]
theorem pw_odd(a e m:Nat):rm (rm (a^e) m*a) m=rm (a^(e+1)) m:=by
 rw[rm_mul_left,← Nat.pow_succ]
theorem half_step(n t:Nat):n/2^t=2*(n/2^(t+1))+n/2^t%2:=by
 rw[Nat.pow_succ,← Nat.div_div_eq_div_mul];omega
structure IV (a m x:Nat) (ok:Bool):Prop where
 yes:ok=true→1<m∧x<m∧a*x%m=1
 no:ok=false→x=0∧∀ y,1<m→a*y%m≠1
theorem no_inv{a m:Nat}(h:Nat.gcd m a≠1)(y:Nat)(hm:1<m):a*y%m≠1:=by
 intro h1;have d1:Nat.gcd m a∣m:=Nat.gcd_dvd_left _ _;have d2:Nat.gcd m a∣a*y:=Nat.dvd_mul_right_of_dvd (Nat.gcd_dvd_right _ _) _;have e:=Nat.div_add_mod (a*y) m;rw[h1]at e;have d3:Nat.gcd m a∣m*(a*y/m):=Nat.dvd_mul_right_of_dvd d1 _;have d4:Nat.gcd m a∣1:=by
  rw[← e]at d2;exact(Nat.dvd_add_right d3).1 d2
 exact h (Nat.dvd_one.1 d4)
theorem IV.low{a m:Nat}(h:m≤1):IV a m 0 false:=⟨(fun h=>by cases h),fun _=>⟨rfl,fun y hy=>by omega⟩⟩
theorem IV.none{a m:Nat}(h:Nat.gcd m a≠1):IV a m 0 false:=⟨(fun h=>by cases h),fun _=>⟨rfl,fun y hy=>no_inv h y hy⟩⟩
def sg (un:Bool):Int:=if un then 1 else -1
theorem sg_not(un:Bool):sg (!un) = - sg un:=by cases un<;>rfl
structure EI (a m dv lf ts nx:Nat) (un:Bool):Prop where
 g:Nat.gcd dv lf=Nat.gcd m a
 s:ts*lf+nx*dv=m
 t:ts≤m
 d:0<dv
 c1:(m:Int)∣(dv:Int)+sg un*(ts*a)
 c2:(m:Int)∣(lf:Int)-sg un*(nx*a)
theorem EI.start{a m:Nat}(h:0<m):EI a m m a 0 1 true:=
 ⟨rfl,by omega,by omega,h,by simp,by simp[sg]⟩
theorem EI.bound{a m dv lf ts nx:Nat}{un:Bool}(h:EI a m dv lf ts nx un)(hl:0<lf):ts+dv/lf*nx≤m∧nx≤m∧dv/lf*nx≤m:=by
 have hs:=h.s;have hm:=Nat.div_add_mod dv lf;have hd:=h.d;have e:(ts+dv/lf*nx)*lf+nx*(dv%lf)=m:=by
  have:nx*dv=nx*(lf*(dv/lf))+nx*(dv%lf):=by rw[← Nat.mul_add,hm]
  rw[Nat.add_mul];have e2:dv/lf*nx*lf=nx*(lf*(dv/lf)):=by ac_rfl
  omega
 have h1:ts+dv/lf*nx≤(ts+dv/lf*nx)*lf:=Nat.le_mul_of_pos_right _ hl;have h2:nx≤nx*dv:=Nat.le_mul_of_pos_right _ hd;generalize dv/lf*nx=z at *;omega
theorem EI.step{a m dv lf ts nx:Nat}{un:Bool}(h:EI a m dv lf ts nx un)(hl:0<lf):EI a m lf (dv%lf) nx (ts+dv/lf*nx) (!un) where
 g:=by rw[← h.g,Nat.gcd_comm lf,Nat.gcd_comm dv,← Nat.gcd_rec]
 s:=by
  have hs:=h.s;have hm:=Nat.div_add_mod dv lf;have:nx*dv=nx*(lf*(dv/lf))+nx*(dv%lf):=by rw[← Nat.mul_add,hm]
  rw[Nat.add_mul];have e2:dv/lf*nx*lf=nx*(lf*(dv/lf)):=by ac_rfl
  omega
 t:=(h.bound hl).2.1
 d:=hl
 c1:=by rw[sg_not,Int.neg_mul,← Int.sub_eq_add_neg];exact h.c2
 c2:=by
  have hm:=Nat.div_add_mod dv lf;have e1:((dv%lf:Nat):Int)=(dv:Int)-(lf:Int)*((dv/lf:Nat):Int):=by
   have:((lf*(dv/lf)+dv%lf:Nat):Int)=(dv:Int):=by rw[hm]
   rw[Int.natCast_add,Int.natCast_mul]at this;omega
  have e2:((ts+dv/lf*nx:Nat):Int)=(ts:Int)+((dv/lf:Nat):Int)*(nx:Int):=by rw[Int.natCast_add,Int.natCast_mul]
  rw[e1,e2,sg_not];generalize ((dv/lf:Nat):Int)=q;obtain⟨x,hx⟩:=h.c1;obtain⟨y,hy⟩:=h.c2;refine⟨x-q*y,?_⟩;generalize sg un=s at *;have e3:(dv:Int)=(m:Int)*x-s*(ts*a):=by omega
  have e4:(lf:Int)=(m:Int)*y+s*(nx*a):=by omega
  rw[e3,e4]
  grind
theorem EI.stop{a m dv ts nx:Nat}{un:Bool}(h:EI a m dv 0 ts nx un):dv=Nat.gcd m a:=by rw[← h.g,Nat.gcd_zero_right]
theorem dvd_one_mod{m z:Nat}(hm:1<m)(h:(m:Int)∣1-(z:Int)):z%m=1:=by
 have h1:(z:Int)%(m:Int)=1%(m:Int):=Int.emod_eq_emod_iff_emod_sub_eq_zero.2 (by
  obtain⟨c,hc⟩:=h;have:(z:Int)-1=(m:Int)*(-c):=by rw[Int.mul_neg];omega
  rw[this];exact Int.mul_emod_right _ _)
 have h2:(1:Int)%(m:Int)=1:=Int.emod_eq_of_lt (by omega) (by omega);rw[h2]at h1;omega
theorem EI.inv{a m ts nx:Nat}{un:Bool}(hm:1<m)(h:EI a m 1 0 ts nx un):IV a m (if un then m-ts else ts) true:=by
 refine⟨fun _=>?_,fun h=>by cases h⟩;have ht:=h.t;have c:=h.c1;have key:∀ x:Nat,x≤m→(m:Int)∣1-((a*x:Nat):Int)→1<m∧x<m∧a*x%m=1:=by
  intro x hx hd;have e:=dvd_one_mod hm hd;refine⟨hm,?_,e⟩;rcases Nat.lt_or_ge x m with h1|h1
  ·exact h1
  ·have:x=m:=by omega
   subst this;rw[Nat.mul_mod_left]at e;omega
 cases un
 ·refine key ts ht ?_;simp only[sg]at c;have e:((a*ts:Nat):Int)=(ts:Int)*a:=by rw[Int.natCast_mul,Int.mul_comm]
  rw[e];have:(1:Int)-(ts:Int)*a=((1:Nat):Int)+(if false=true then 1 else -1)*((ts:Int)*a):=by simp;omega
  rw[this];exact c
 ·refine key (m-ts) (by omega) ?_;simp only[sg]at c;obtain⟨x,hx⟩:=c;refine⟨x-a,?_⟩;have e:((a*(m-ts):Nat):Int)=(a:Int)*((m:Int)-ts):=by rw[Int.natCast_mul,Int.natCast_sub ht]
  rw[e];simp at hx
  grind
structure DE (a m old r before t i:Nat):Prop where
 g:Nat.gcd old r=Nat.gcd m a
 rl:r<old
 bm:before<m
 tm:t<m
 om:old≤m
 c1:(m:Int)∣(old:Int)-before*a
 c2:(m:Int)∣(r:Int)-t*a
 k:∃ j,i+j=512∧old*r<2^j
theorem DE.start{a m:Nat}(hm:1<m)(hW:m<W):DE a m m (a%m) 0 1 0 where
 g:=by rw[Nat.gcd_comm,← Nat.gcd_rec]
 rl:=Nat.mod_lt _ (by omega)
 bm:=by omega
 tm:=hm
 om:=Nat.le_refl _
 c1:=by simp
 c2:=by
  have e:=Nat.div_add_mod a m;refine⟨-((a/m:Nat):Int),?_⟩;have:((m*(a/m)+a%m:Nat):Int)=(a:Int):=by rw[e]
  rw[Int.natCast_add,Int.natCast_mul]at this;rw[Int.mul_neg];simp only[Int.natCast_one,Int.one_mul];generalize (m:Int)*((a/m:Nat):Int)=z at *;omega
 k:=by
  refine⟨512,rfl,?_⟩;have h1:a%m<W:=Nat.lt_trans (Nat.mod_lt _ (by omega)) hW;have e:(2:Nat)^512=W*W:=by decide +kernel
  rw[e];exact Nat.mul_lt_mul'' hW h1
def lessM (a b m:Nat):Nat:=if a<b then a+m-b else a-b
theorem lessM_lt{a b m:Nat}(ha:a<m)(hb:b<m):lessM a b m<m:=by unfold lessM;split<;>omega
theorem lessM_dvd{a b m:Nat}(ha:a<m)(hb:b<m):(m:Int)∣(lessM a b m:Int)-((a:Int)-b):=by
 unfold lessM;split
 ·exact⟨1,by omega⟩
 ·exact⟨0,by omega⟩
theorem DE.small{a m old r before t i:Nat}(h:DE a m old r before t i)(hr:0<r):i<512:=by
 obtain⟨j,e,hlt⟩:=h.k;rcases Nat.eq_zero_or_pos j with h0|h0
 ·subst h0;have:0<old*r:=Nat.mul_pos (Nat.lt_trans hr h.rl) hr;rw[Nat.pow_zero]at hlt;omega
 ·omega
theorem DE.step{a m old r before t i:Nat}(h:DE a m old r before t i)(hr:0<r):DE a m r (old%r) t (lessM before (rm (old/r*t) m) m) (i+1) where
 g:=by rw[← h.g,Nat.gcd_comm r,Nat.gcd_comm old,← Nat.gcd_rec]
 rl:=Nat.mod_lt _ hr
 bm:=h.tm
 tm:=lessM_lt h.bm (rm_small _ (Nat.lt_of_le_of_lt (Nat.zero_le _) h.bm))
 om:=Nat.le_trans (Nat.le_of_lt h.rl) h.om
 c1:=h.c2
 c2:=by
  have hm0:0<m:=Nat.lt_of_le_of_lt (Nat.zero_le _) h.bm;have d1:=lessM_dvd h.bm (rm_small (old/r*t) hm0);have hm:=Nat.div_add_mod old r;have e1:((old%r:Nat):Int)=(old:Int)-(r:Int)*((old/r:Nat):Int):=by
   have:((r*(old/r)+old%r:Nat):Int)=(old:Int):=by rw[hm]
   rw[Int.natCast_add,Int.natCast_mul]at this;omega
  have e2:∃ z:Int,(rm (old/r*t) m:Int)=((old/r:Nat):Int)*(t:Int)+(m:Int)*z:=by
   rw[zcf _ hm0];have e:=Nat.div_add_mod (old/r*t) m;refine⟨-((old/r*t/m:Nat):Int),?_⟩;have:((m*(old/r*t/m)+old/r*t%m:Nat):Int)=((old/r*t:Nat):Int):=by rw[e]
   rw[Int.natCast_add,Int.natCast_mul,Int.natCast_mul (old/r)]at this;rw[Int.mul_neg];omega
  obtain⟨z,e2⟩:=e2;rw[e2]at d1;obtain⟨u,hu⟩:=d1;obtain⟨x,hx⟩:=h.c1;obtain⟨y,hy⟩:=h.c2;rw[e1];generalize ((old/r:Nat):Int)=q,(lessM before (rm (old/r*t) m) m:Int)=l at *;have e3:(old:Int)=(m:Int)*x+before*a:=by omega
  have e4:(r:Int)=(m:Int)*y+t*a:=by omega
  have e5:l=(m:Int)*u+((before:Int)-(q*t+m*z)):=by omega
  refine⟨x-q*y-(u-z)*a,?_⟩;rw[e3,e4,e5]
  grind
 k:=by
  obtain⟨j,e,hlt⟩:=h.k;have hi:=h.small hr;refine⟨j-1,by omega,?_⟩;have h1:old%r<r:=Nat.mod_lt _ hr;have h2:2*(old%r)≤old:=by
   have hm:=Nat.div_add_mod old r;have h3:1≤old/r:=(Nat.le_div_iff_mul_le hr).2 (by have:=h.rl;omega);have h4:r≤r*(old/r):=Nat.le_mul_of_pos_right _ h3;omega
  have h3:r*(2*(old%r))≤r*old:=Nat.mul_le_mul_left _ h2;have e2:(2:Nat)^j=2*2^(j-1):=by rw[← Nat.pow_succ',show(j-1).succ=j by omega]
  rw[e2,Nat.mul_comm old]at hlt;have e3:r*(2*(old%r))=2*(r*(old%r)):=by rw[Nat.mul_left_comm]
  omega
theorem DE.stop{a m old before t i:Nat}(h:DE a m old 0 before t i):old=Nat.gcd m a:=by rw[← h.g,Nat.gcd_zero_right]
theorem DE.inv{a m before t i:Nat}(hm:1<m)(h:DE a m 1 0 before t i):IV a m before true:=by
 refine⟨fun _=>⟨hm,h.bm,dvd_one_mod hm ?_⟩,fun h=>by cases h⟩;have c:=h.c1;rw[Int.natCast_mul,Int.mul_comm (a:Int)];exact c
structure LW (w w':World) (bv:Nat) (d m q o v:Nat→Nat):Prop where
 lv:LV w w' d m q o
 vv:zb w' bv (ag .u64 8 v)
 gt:w.heap.size+1+1+1+1+1<bv
theorem LW.grown{w w' w'':World}{bv:Nat}{d m q o v:Nat→Nat}(h:LW w w' bv d m q o v)(hb:Below w'.heap.size w' w''):LW w w'' bv d m q o v:=
 ⟨⟨h.lv.dd.below hb,h.lv.mm.below hb,h.lv.r4.below hb,h.lv.r5.below hb,h.lv.qq.below hb,h.lv.oo.below hb,h.lv.b.trans (hb.mono h.lv.b.size)⟩,h.vv.below hb,h.gt⟩
theorem LW.putV{w w':World}{bv:Nat}{d m q o v:Nat→Nat}(h:LW w w' bv d m q o v)(i x:Nat):LW w (w'.setCell ⟨bv,i,none⟩ (.int .u64 (x:Nat))) bv d m q o (upd v i x):=by
 have hg:=h.gt;rw[h.vv.setCell,xr];exact⟨⟨h.lv.dd.set_other _ (by omega),h.lv.mm.set_other _ (by omega),h.lv.r4.set_other _ (by omega),h.lv.r5.set_other _ (by omega),h.lv.qq.set_other _ (by omega),h.lv.oo.set_other _ (by omega),zf h.lv.b (by omega) _⟩,h.vv.set_same _,hg⟩
structure LX (w w':World) (bv bu:Nat) (d m q o v u:Nat→Nat):Prop where
 lw:LW w w' bv d m q o v
 uu:zb w' bu (ag .u64 17 u)
 gu:bv<bu
theorem LX.grown{w w' w'':World}{bv bu:Nat}{d m q o v u:Nat→Nat}(h:LX w w' bv bu d m q o v u)(hb:Below w'.heap.size w' w''):LX w w'' bv bu d m q o v u:=
 ⟨h.lw.grown hb,h.uu.below hb,h.gu⟩
structure GI (u v:Nat→Nat) (p k g r:Nat):Prop where
 e:g*v (k+1)+r=u (p+(k+2))*D+u (p+(k+1))
 q:vl u p (k+3)/vl v 0 (k+2)≤g
 r:r<D
theorem GI.start{u v:Nat→Nat}{p k:Nat}(hp:p+k≤14)(hf:∀ i,i<17→u i<D)(h0:0<v (k+1))(h1:v (k+1)<D) :
  GI u v p k ((u (p+(k+2))*D+u (p+(k+1)))/v (k+1)) ((u (p+(k+2))*D+u (p+(k+1)))%v (k+1)) where
 e:=by rw[Nat.mul_comm,Nat.div_add_mod]
 q:=guess_ge (f:=u) (g:=v) (k:=p) (n:=k+2) (fun i hi=>hf _ (by omega)) (by omega) h0
 r:=Nat.lt_trans (Nat.mod_lt _ h0) h1
theorem GI.lt{u v:Nat→Nat}{p k g r:Nat}(h:GI u v p k g r)(hp:p+k≤14)(hf:∀ i,i<17→u i<D)(h0:0<v (k+1)):g<M:=by
 have e:=h.e;have a1:=hf (p+(k+2)) (by omega);have a2:=hf (p+(k+1)) (by omega);have h3:g≤g*v (k+1):=Nat.le_mul_of_pos_right _ h0;unfold D M at *;omega
theorem top_le{u v:Nat→Nat}{p k:Nat}(hv:∀ i,i<k+2→v i<D)(hw:vl u p (k+3)<D*vl v 0 (k+2)):u (p+(k+2))≤v (k+1):=by
 have h1:vl v 0 (k+1)<D^(k+1):=vl_lt fun i hi=>by rw[Nat.zero_add];exact hv _ (by omega)
 have e1:vl v 0 (k+2)=vl v 0 (k+1)+v (k+1)*D^(k+1):=by rw[vl,Nat.zero_add]
 have e2:vl u p (k+3)=vl u p (k+2)+u (p+(k+2))*D^(k+2):=by rw[vl]
 have h2:vl v 0 (k+2)<(v (k+1)+1)*D^(k+1):=by rw[e1,Nat.add_mul,Nat.one_mul];omega
 have h3:D*vl v 0 (k+2)<D*((v (k+1)+1)*D^(k+1)):=Nat.mul_lt_mul_of_pos_left h2 zat;have e3:D*((v (k+1)+1)*D^(k+1))=(v (k+1)+1)*D^(k+2):=by rw[Nat.pow_succ D (k+1)];ac_rfl
 have h4:u (p+(k+2))*D^(k+2)<(v (k+1)+1)*D^(k+2):=by omega
 have:=Nat.lt_of_mul_lt_mul_right h4;omega
structure GF (u v:Nat→Nat) (p k g:Nat):Prop where
 d:g<D
 q:vl u p (k+3)/vl v 0 (k+2)≤g
 m:g*vl v 0 (k+2)<vl u p (k+3)+vl v 0 (k+2)
theorem GI.fin{u v:Nat→Nat}{p k g r:Nat}(h:GI u v p k g r)(hv:∀ i,i<k+2→v i<D)(h0:0<v (k+1))(h1:g<D)(h2:g*v k≤r*D+u (p+k)):GF u v p k g:=
 ⟨h1,h.q,guess_end (f:=u) (g:=v) (k:=p) (n:=k) hv h0 h.e h1 h2⟩
theorem GI.brk{u v:Nat→Nat}{p k g r:Nat}(hp:p+k≤14)(hf:∀ i,i<17→u i<D)(hv:∀ i,i<k+2→v i<D)(h0:0<v (k+1))(hw:vl u p (k+3)<D*vl v 0 (k+2))(e:g*v (k+1)+r=u (p+(k+2))*D+u (p+(k+1)))(q:vl u p (k+3)/vl v 0 (k+2)≤g)(hr:D≤r):GF u v p k g:=by
 have ht:=top_le hv hw;have hl:=hf (p+(k+1)) (by omega);have h1:u (p+(k+2))*D≤v (k+1)*D:=Nat.mul_le_mul_right _ ht;have h2:g*v (k+1)<D*v (k+1):=by rw[Nat.mul_comm D];omega
 have hg:g<D:=Nat.lt_of_mul_lt_mul_right h2;refine⟨hg,q,guess_end (f:=u) (g:=v) (k:=p) (n:=k) hv h0 e hg ?_⟩;have h3:g*v k≤D*D:=Nat.mul_le_mul (by omega) (Nat.le_of_lt (hv k (by omega)));have h4:D*D≤r*D:=Nat.mul_le_mul_right _ hr;omega
theorem LX.putQ{w w':World}{bv bu:Nat}{d m q o v u:Nat→Nat}(h:LX w w' bv bu d m q o v u)(i x:Nat):LX w (w'.setCell ⟨w.heap.size+1+1+1+1,i,none⟩ (.int .u64 (x:Nat))) bv bu d m (upd q i x) o v u:=by
 have hg:=h.gu;have hv:=h.lw.gt;rw[h.lw.lv.qq.setCell,xr];exact⟨⟨⟨h.lw.lv.dd.set_other _ (by omega),h.lw.lv.mm.set_other _ (by omega),h.lw.lv.r4.set_other _ (by omega),h.lw.lv.r5.set_other _ (by omega),h.lw.lv.qq.set_same _,h.lw.lv.oo.set_other _ (by omega),zf h.lw.lv.b (by omega) _⟩,h.lw.vv.set_other _ (by omega),hv⟩,h.uu.set_other _ (by omega),hg⟩
theorem ag_cong{k:IntKind}{n:Nat}{f g:Nat→Nat}(h:∀ i,i<n→f i=g i):ag k n f=ag k n g:=by
 apply Array.ext_getElem?;intro i;rw[yd,yd];by_cases hi:i<n
 ·rw[if_pos hi,if_pos hi,h i hi]
 ·rw[if_neg hi,if_neg hi]
theorem LR.same{X V:Nat}{q o:Nat→Nat}(h:LR X V q o):Value.tuple #[A16 q,A8 o]=Value.tuple #[A16 (dg (X/V)),A8 (dg (rm X V))]:=by
 have e1:ag .u64 16 q=ag .u64 16 (dg (X/V)):=ag_cong fun i hi=>by rw[← h.vq,dg_vl h.hq hi]
 have e2:ag .u64 8 o=ag .u64 8 (dg (rm X V)):=ag_cong fun i hi=>by unfold rm;rw[← h.vo,dg_vl h.ho hi]
 unfold A16 A8;rw[e1,e2]
end Go.Proofs.YthkpgfbjdabflaaGreatDoor
