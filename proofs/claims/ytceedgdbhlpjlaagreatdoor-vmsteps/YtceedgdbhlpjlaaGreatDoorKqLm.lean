/- Laid one behind the other: Mo, Lm, Lo. -/
import Derived.Test.YtceedgdbhlpjlaaGreatDoorKqLa1
namespace Go.Proofs.YtceedgdbhlpjlaaGreatDoor
open Go.RowKit Go.Sort Tryz
set_option linter.unusedVariables false
set_option maxRecDepth 100000
set_option maxHeartbeats 4000000
def rm (x m:Nat):Nat:=if m=0 then 0 else x%m
theorem zcx(x:Nat){m:Nat}(h:0<m):rm x m=x%m:=if_neg (by omega)
theorem rm_small(x:Nat){m:Nat}(h:0<m):rm x m<m:=by rw[zcx x h];exact Nat.mod_lt _ h
theorem rm_le(x m:Nat):rm x m≤m:=by
 unfold rm;split
 ·omega
 ·exact Nat.le_of_lt (Nat.mod_lt _ (by omega))
theorem rm_lt(x:Nat){m:Nat}(h:m<W):rm x m<W:=Nat.lt_of_le_of_lt (rm_le x m) h
theorem rm_mul(x y m:Nat):rm (rm x m*rm y m) m=rm (x*y) m:=by
 rcases Nat.eq_zero_or_pos m with h|h
 ·subst h;rfl
 ·rw[zcx _ h,zcx _ h,zcx _ h,zcx _ h,← Nat.mul_mod]
theorem rm_mul_left(x y m:Nat):rm (rm x m*y) m=rm (x*y) m:=by
 rcases Nat.eq_zero_or_pos m with h|h
 ·subst h;rfl
 ·rw[zcx _ h,zcx _ h,zcx _ h,Nat.mod_mul_mod]
theorem rm_W(x:Nat):rm x W=x%W:=zcx x (by decide)
theorem pw_sq(a e m:Nat):rm (rm (a^e) m*rm (a^e) m) m=rm (a^(2*e)) m:=by
 rw[rm_mul,← Nat.pow_add,Nat.two_mul]
theorem pw_odd(a e m:Nat):rm (rm (a^e) m*a) m=rm (a^(e+1)) m:=by
 rw[rm_mul_left,← Nat.pow_succ]
theorem half_step(n t:Nat):n/2^t=2*(n/2^(t+1))+n/2^t%2:=by
 rw[Nat.pow_succ,← Nat.div_div_eq_div_mul];omega
structure IV (a m x:Nat) (ok:Bool):Prop where
 yes:ok=true→1<m∧x<m∧a*x%m=1
 no:ok=false→x=0∧∀ y,1<m→a*y%m≠1
theorem no_inv{a m:Nat}(h:Nat.gcd m a≠1)(y:Nat)(hm:1<m):a*y%m≠1:=by
 intro h1;have d1:Nat.gcd m a∣m:=Nat.gcd_dvd_left _ _;have d2:Nat.gcd m a∣a*y:=Nat.dvd_mul_right_of_dvd (Nat.gcd_dvd_right _ _) _;have e:=Nat.div_add_mod (a*y) m;rw[h1]at e;have d3:Nat.gcd m a∣m*(a*y/m):=Nat.dvd_mul_right_of_dvd d1 _;have d4:Nat.gcd m a∣1:=by
  rw[← e]at d2;exact(Nat.dvd_add_right d3).1 d2
 exact h (Nat.dvd_one.1 d4)
theorem IV.low{a m:Nat}(h:m≤1):IV a m 0 false:=⟨(fun h=>by cases h),fun _=>⟨rfl,fun y hy=>by omega⟩⟩
theorem IV.none{a m:Nat}(h:Nat.gcd m a≠1):IV a m 0 false:=⟨(fun h=>by cases h),fun _=>⟨rfl,fun y hy=>no_inv h y hy⟩⟩
def sg (un:Bool):Int:=if un then 1 else -1
theorem sg_not(un:Bool):sg (!un) = - sg un:=by cases un<;>rfl
structure EI (a m dv lf ts nx:Nat) (un:Bool):Prop where
 g:Nat.gcd dv lf=Nat.gcd m a
 s:ts*lf+nx*dv=m
 t:ts≤m
 d:0<dv
 c1:(m:Int)∣(dv:Int)+sg un*(ts*a)
 c2:(m:Int)∣(lf:Int)-sg un*(nx*a)
theorem EI.start{a m:Nat}(h:0<m):EI a m m a 0 1 true:=
 ⟨rfl,by omega,by omega,h,by simp,by simp[sg]⟩
theorem EI.bound{a m dv lf ts nx:Nat}{un:Bool}(h:EI a m dv lf ts nx un)(hl:0<lf):ts+dv/lf*nx≤m∧nx≤m∧dv/lf*nx≤m:=by
 have hs:=h.s;have hm:=Nat.div_add_mod dv lf;have hd:=h.d;have e:(ts+dv/lf*nx)*lf+nx*(dv%lf)=m:=by
  have:nx*dv=nx*(lf*(dv/lf))+nx*(dv%lf):=by rw[← Nat.mul_add,hm]
  rw[Nat.add_mul];have e2:dv/lf*nx*lf=nx*(lf*(dv/lf)):=by ac_rfl
  omega
 have h1:ts+dv/lf*nx≤(ts+dv/lf*nx)*lf:=Nat.le_mul_of_pos_right _ hl;have h2:nx≤nx*dv:=Nat.le_mul_of_pos_right _ hd;generalize dv/lf*nx=z at *;omega
theorem EI.step{a m dv lf ts nx:Nat}{un:Bool}(h:EI a m dv lf ts nx un)(hl:0<lf):EI a m lf (dv%lf) nx (ts+dv/lf*nx) (!un) where
 g:=by rw[← h.g,Nat.gcd_comm lf,Nat.gcd_comm dv,← Nat.gcd_rec]
 s:=by
  have hs:=h.s;have hm:=Nat.div_add_mod dv lf;have:nx*dv=nx*(lf*(dv/lf))+nx*(dv%lf):=by rw[← Nat.mul_add,hm]
  rw[Nat.add_mul];have e2:dv/lf*nx*lf=nx*(lf*(dv/lf)):=by ac_rfl
  omega
 t:=(h.bound hl).2.1
 d:=hl
 c1:=by rw[sg_not,Int.neg_mul,← Int.sub_eq_add_neg];exact h.c2
 c2:=by
  have hm:=Nat.div_add_mod dv lf;have e1:((dv%lf:Nat):Int)=(dv:Int)-(lf:Int)*((dv/lf:Nat):Int):=by
   have:((lf*(dv/lf)+dv%lf:Nat):Int)=(dv:Int):=by rw[hm]
   rw[Int.natCast_add,Int.natCast_mul]at this;omega
  have e2:((ts+dv/lf*nx:Nat):Int)=(ts:Int)+((dv/lf:Nat):Int)*(nx:Int):=by rw[Int.natCast_add,Int.natCast_mul]
  rw[e1,e2,sg_not];generalize ((dv/lf:Nat):Int)=q;obtain⟨x,hx⟩:=h.c1;obtain⟨y,hy⟩:=h.c2;refine⟨x-q*y,?_⟩;generalize sg un=s at *;have e3:(dv:Int)=(m:Int)*x-s*(ts*a):=by omega
  have e4:(lf:Int)=(m:Int)*y+s*(nx*a):=by omega
  rw[e3,e4]
  grind
theorem EI.stop{a m dv ts nx:Nat}{un:Bool}(h:EI a m dv 0 ts nx un):dv=Nat.gcd m a:=by rw[← h.g,Nat.gcd_zero_right]
theorem dvd_one_mod{m z:Nat}(hm:1<m)(h:(m:Int)∣1-(z:Int)):z%m=1:=by
 have h1:(z:Int)%(m:Int)=1%(m:Int):=Int.emod_eq_emod_iff_emod_sub_eq_zero.2 (by
  obtain⟨c,hc⟩:=h;have:(z:Int)-1=(m:Int)*(-c):=by rw[Int.mul_neg];omega
  rw[this];exact Int.mul_emod_right _ _)
 have h2:(1:Int)%(m:Int)=1:=Int.emod_eq_of_lt (by omega) (by omega);rw[h2]at h1;omega
theorem EI.inv{a m ts nx:Nat}{un:Bool}(hm:1<m)(h:EI a m 1 0 ts nx un):IV a m (if un then m-ts else ts) true:=by
 refine⟨fun _=>?_,fun h=>by cases h⟩;have ht:=h.t;have c:=h.c1;have key:∀ x:Nat,x≤m→(m:Int)∣1-((a*x:Nat):Int)→1<m∧x<m∧a*x%m=1:=by
  intro x hx hd;have e:=dvd_one_mod hm hd;refine⟨hm,?_,e⟩;rcases Nat.lt_or_ge x m with h1|h1
  ·exact h1
  ·have:x=m:=by omega
   subst this;rw[Nat.mul_mod_left]at e;omega
 cases un
 ·refine key ts ht ?_;simp only[sg]at c;have e:((a*ts:Nat):Int)=(ts:Int)*a:=by rw[Int.natCast_mul,Int.mul_comm]
  rw[e];have:(1:Int)-(ts:Int)*a=((1:Nat):Int)+(if false=true then 1 else -1)*((ts:Int)*a):=by simp;omega
  rw[this];exact c
 ·refine key (m-ts) (by omega) ?_;simp only[sg]at c;obtain⟨x,hx⟩:=c;refine⟨x-a,?_⟩;have e:((a*(m-ts):Nat):Int)=(a:Int)*((m:Int)-ts):=by rw[Int.natCast_mul,Int.natCast_sub ht]
  rw[e];simp at hx
  grind
structure DE (a m old r before t i:Nat):Prop where
 g:Nat.gcd old r=Nat.gcd m a
 rl:r<old
 bm:before<m
 tm:t<m
 om:old≤m
 c1:(m:Int)∣(old:Int)-before*a
 c2:(m:Int)∣(r:Int)-t*a
 k:∃ j,i+j=512∧old*r<2^j
theorem DE.start{a m:Nat}(hm:1<m)(hW:m<W):DE a m m (a%m) 0 1 0 where
 g:=by rw[Nat.gcd_comm,← Nat.gcd_rec]
 rl:=Nat.mod_lt _ (by omega)
 bm:=by omega
 tm:=hm
 om:=Nat.le_refl _
 c1:=by simp
 c2:=by
  have e:=Nat.div_add_mod a m;refine⟨-((a/m:Nat):Int),?_⟩;have:((m*(a/m)+a%m:Nat):Int)=(a:Int):=by rw[e]
  rw[Int.natCast_add,Int.natCast_mul]at this;rw[Int.mul_neg];simp only[Int.natCast_one,Int.one_mul];generalize (m:Int)*((a/m:Nat):Int)=z at *;omega
 k:=by
  refine⟨512,rfl,?_⟩;have h1:a%m<W:=Nat.lt_trans (Nat.mod_lt _ (by omega)) hW;have e:(2:Nat)^512=W*W:=by decide +kernel
  rw[e];exact Nat.mul_lt_mul'' hW h1
def lessM (a b m:Nat):Nat:=if a<b then a+m-b else a-b
theorem lessM_lt{a b m:Nat}(ha:a<m)(hb:b<m):lessM a b m<m:=by unfold lessM;split<;>omega
theorem lessM_dvd{a b m:Nat}(ha:a<m)(hb:b<m):(m:Int)∣(lessM a b m:Int)-((a:Int)-b):=by
 unfold lessM;split
 ·exact⟨1,by omega⟩
 ·exact⟨0,by omega⟩
theorem DE.small{a m old r before t i:Nat}(h:DE a m old r before t i)(hr:0<r):i<512:=by
 obtain⟨j,e,hlt⟩:=h.k;rcases Nat.eq_zero_or_pos j with h0|h0
 ·subst h0;have:0<old*r:=Nat.mul_pos (Nat.lt_trans hr h.rl) hr;rw[Nat.pow_zero]at hlt;omega
 ·omega
theorem DE.step{a m old r before t i:Nat}(h:DE a m old r before t i)(hr:0<r):DE a m r (old%r) t (lessM before (rm (old/r*t) m) m) (i+1) where
 g:=by rw[← h.g,Nat.gcd_comm r,Nat.gcd_comm old,← Nat.gcd_rec]
 rl:=Nat.mod_lt _ hr
 bm:=h.tm
 tm:=lessM_lt h.bm (rm_small _ (Nat.lt_of_le_of_lt (Nat.zero_le _) h.bm))
 om:=Nat.le_trans (Nat.le_of_lt h.rl) h.om
 c1:=h.c2
 c2:=by
  have hm0:0<m:=Nat.lt_of_le_of_lt (Nat.zero_le _) h.bm;have d1:=lessM_dvd h.bm (rm_small (old/r*t) hm0);have hm:=Nat.div_add_mod old r;have e1:((old%r:Nat):Int)=(old:Int)-(r:Int)*((old/r:Nat):Int):=by
   have:((r*(old/r)+old%r:Nat):Int)=(old:Int):=by rw[hm]
   rw[Int.natCast_add,Int.natCast_mul]at this;omega
  have e2:∃ z:Int,(rm (old/r*t) m:Int)=((old/r:Nat):Int)*(t:Int)+(m:Int)*z:=by
   rw[zcx _ hm0];have e:=Nat.div_add_mod (old/r*t) m;refine⟨-((old/r*t/m:Nat):Int),?_⟩;have:((m*(old/r*t/m)+old/r*t%m:Nat):Int)=((old/r*t:Nat):Int):=by rw[e]
   rw[Int.natCast_add,Int.natCast_mul,Int.natCast_mul (old/r)]at this;rw[Int.mul_neg];omega
  obtain⟨z,e2⟩:=e2;rw[e2]at d1;obtain⟨u,hu⟩:=d1;obtain⟨x,hx⟩:=h.c1;obtain⟨y,hy⟩:=h.c2;rw[e1];generalize ((old/r:Nat):Int)=q,(lessM before (rm (old/r*t) m) m:Int)=l at *;have e3:(old:Int)=(m:Int)*x+before*a:=by omega
  have e4:(r:Int)=(m:Int)*y+t*a:=by omega
  have e5:l=(m:Int)*u+((before:Int)-(q*t+m*z)):=by omega
  refine⟨x-q*y-(u-z)*a,?_⟩;rw[e3,e4,e5]
  grind
 k:=by
  obtain⟨j,e,hlt⟩:=h.k;have hi:=h.small hr;refine⟨j-1,by omega,?_⟩;have h1:old%r<r:=Nat.mod_lt _ hr;have h2:2*(old%r)≤old:=by
   have hm:=Nat.div_add_mod old r;have h3:1≤old/r:=(Nat.le_div_iff_mul_le hr).2 (by have:=h.rl;omega);have h4:r≤r*(old/r):=Nat.le_mul_of_pos_right _ h3;omega
  have h3:r*(2*(old%r))≤r*old:=Nat.mul_le_mul_left _ h2;have e2:(2:Nat)^j=2*2^(j-1):=by rw[← Nat.pow_succ',show(j-1).succ=j by omega]
  rw[e2,Nat.mul_comm old]at hlt;have e3:r*(2*(old%r))=2*(r*(old%r)):=by rw[Nat.mul_left_comm]
  omega
theorem DE.stop{a m old before t i:Nat}(h:DE a m old 0 before t i):old=Nat.gcd m a:=by rw[← h.g,Nat.gcd_zero_right]
theorem DE.inv{a m before t i:Nat}(hm:1<m)(h:DE a m 1 0 before t i):IV a m before true:=by
 refine⟨fun _=>⟨hm,h.bm,dvd_one_mod hm ?_⟩,fun h=>by cases h⟩;have c:=h.c1;rw[Int.natCast_mul,Int.mul_comm (a:Int)];exact c
theorem shl_w{x s:Nat}(hs:s≤64)(h:x*2^s<M):IntKind.u64.wrap ((x:Int)*2^s)=((x*2^s:Nat):Int):=by
 have e:(x:Int)*2^s=((x*2^s:Nat):Int):=by simp
 rw[e];generalize x*2^s=y at *;simp only[IntKind.wrap_u64];unfold M at h;omega
theorem zbm{x s:Nat}(hx:x<D)(hs:s<32):x*2^s<M∧x*2^s/D<2^s:=by
 have hD:=D_split s (by omega);have hp:0<2^s:=Nat.two_pow_pos s;have h1:x*2^s<D*2^s:=Nat.mul_lt_mul_of_pos_right hx hp;have h2:2^s≤D:=by
  have:2^s≤2^32:=Nat.pow_le_pow_right (by decide) (by omega);exact this
 refine⟨?_,?_⟩
 ·rw[← DD];exact Nat.lt_of_lt_of_le h1 (Nat.mul_le_mul_left _ h2)
 ·exact Nat.div_lt_of_lt_mul h1
theorem top_test{y:Nat}(hy:y<D):(bits BinOp.and IntKind.u64 ((y:Int)/2147483648) 1 == 0)=decide (y<2147483648):=by
 have e:(y:Int)/2147483648=((y/2147483648:Nat):Int):=by omega
 have h1:y/2147483648≤1:=by unfold D at hy;omega
 rw[e];rcases Nat.lt_or_ge y 2147483648 with h|h
 ·have:y/2147483648=0:=by omega
  rw[this,decide_eq_true h];decide
 ·have:y/2147483648=1:=by omega
  rw[this,decide_eq_false (by omega)];decide
theorem pow_small{x s:Nat}(h0:0<x)(h:x*2^s<D):s<32:=by
 have h1:2^s≤x*2^s:=Nat.le_mul_of_pos_left _ h0;have h2:2^s<2^32:=Nat.lt_of_le_of_lt h1 h;exact(Nat.pow_lt_pow_iff_right (by decide)).1 h2
theorem num_shl{x y s:Nat}(hx:x<D)(hy:y<D)(hs:s<32) :
  bits BinOp.and IntKind.u64 (bits BinOp.or IntKind.u64 (IntKind.u64.wrap ((x:Int)*2^s)) (IntKind.u64.wrap ((y:Int)*2^s)/4294967296)) 4294967295=(((x*2^s+y*2^s/D)%D:Nat):Int):=by
 obtain⟨a1,a2⟩:=zbm hx hs;obtain⟨b1,b2⟩:=zbm hy hs;rw[shl_w (by omega) a1,shl_w (by omega) b1,ku];have hM:y*2^s/D<M:=Nat.lt_of_le_of_lt (Nat.div_le_self _ _) b1;rw[ym _ _ a1 hM];have e:x*2^s ||| y*2^s/D=x*2^s+y*2^s/D:=by
  rw[Nat.mul_comm x,← Nat.two_pow_add_eq_or_of_lt b2]
 have hlt:x*2^s ||| y*2^s/D<M:=by
  have:M=2^64:=by decide
  rw[this]at *;exact Nat.or_lt_two_pow a1 hM
 rw[vx hlt,e]
structure LW (w w':World) (bv:Nat) (d m q o v:Nat→Nat):Prop where
 lv:LV w w' d m q o
 vv:za w' bv (ag .u64 8 v)
 gt:w.heap.size+1+1+1+1+1<bv
theorem LW.grown{w w' w'':World}{bv:Nat}{d m q o v:Nat→Nat}(h:LW w w' bv d m q o v)(hb:Below w'.heap.size w' w''):LW w w'' bv d m q o v:=
 ⟨⟨h.lv.dd.below hb,h.lv.mm.below hb,h.lv.r4.below hb,h.lv.r5.below hb,h.lv.qq.below hb,h.lv.oo.below hb,h.lv.b.trans (hb.mono h.lv.b.size)⟩,h.vv.below hb,h.gt⟩
theorem LW.putV{w w':World}{bv:Nat}{d m q o v:Nat→Nat}(h:LW w w' bv d m q o v)(i x:Nat):LW w (w'.setCell ⟨bv,i,none⟩ (.int .u64 (x:Nat))) bv d m q o (upd v i x):=by
 have hg:=h.gt;rw[h.vv.setCell,zw];exact⟨⟨h.lv.dd.set_other _ (by omega),h.lv.mm.set_other _ (by omega),h.lv.r4.set_other _ (by omega),h.lv.r5.set_other _ (by omega),h.lv.qq.set_other _ (by omega),h.lv.oo.set_other _ (by omega),zd h.lv.b (by omega) _⟩,h.vv.set_same _,hg⟩
structure LX (w w':World) (bv bu:Nat) (d m q o v u:Nat→Nat):Prop where
 lw:LW w w' bv d m q o v
 uu:za w' bu (ag .u64 17 u)
 gu:bv<bu
theorem LX.grown{w w' w'':World}{bv bu:Nat}{d m q o v u:Nat→Nat}(h:LX w w' bv bu d m q o v u)(hb:Below w'.heap.size w' w''):LX w w'' bv bu d m q o v u:=
 ⟨h.lw.grown hb,h.uu.below hb,h.gu⟩
theorem LX.putU{w w':World}{bv bu:Nat}{d m q o v u:Nat→Nat}(h:LX w w' bv bu d m q o v u)(i x:Nat):LX w (w'.setCell ⟨bu,i,none⟩ (.int .u64 (x:Nat))) bv bu d m q o v (upd u i x):=by
 have hg:=h.gu;have hv:=h.lw.gt;rw[h.uu.setCell,zw];exact⟨⟨⟨h.lw.lv.dd.set_other _ (by omega),h.lw.lv.mm.set_other _ (by omega),h.lw.lv.r4.set_other _ (by omega),h.lw.lv.r5.set_other _ (by omega),h.lw.lv.qq.set_other _ (by omega),h.lw.lv.oo.set_other _ (by omega),zd h.lw.lv.b (by omega) _⟩,h.lw.vv.set_other _ (by omega),hv⟩,h.uu.set_same _,hg⟩
theorem dg_up{f:Nat→Nat}{n p s:Nat}(hf:∀ i,i<n→f i<D)(hp:p+1<n)(hs:s<32):dg (vl f 0 n*2^s) (p+1)=(f (p+1)*2^s+f p*2^s/D)%D:=by
 rw[dg_shl _ _ _ (by omega),dg_vl hf hp,dg_vl hf (by omega)]
theorem dg_up0{f:Nat→Nat}{n s:Nat}(hf:∀ i,i<n→f i<D)(hn:0<n):dg (vl f 0 n*2^s) 0=f 0*2^s%D:=by
 rw[dg_shl0,dg_vl hf hn]
theorem dg_up_top{f:Nat→Nat}{s:Nat}(hf:∀ i,i<16→f i<D)(hs:s<32):dg (vl f 0 16*2^s) 16=f 15*2^s/D:=by
 have hlt:vl f 0 16<D^16:=zb3 fun i hi=>by rw[Nat.zero_add];exact hf i hi
 have h2:=(zbm (hf 15 (by decide)) hs).2;have h3:2^s≤D:=by
  have:2^s≤2^32:=Nat.pow_le_pow_right (by decide) (by omega);exact this
 have e:dg (vl f 0 16) 16=0:=by unfold dg;rw[Nat.div_eq_of_lt hlt];rfl
 rw[show(16:Nat)=15+1 from rfl]at *;rw[dg_shl _ _ _ (by omega),e,dg_vl hf (by decide),Nat.zero_mul,Nat.zero_add];exact Nat.mod_eq_of_lt (Nat.lt_of_lt_of_le h2 h3)
theorem top_big{m:Nat→Nat}{k s:Nat}(hk:k≤6)(hz:∀ i,k+2≤i→i<8→m i=0)(hlow:¬ m (k+1)*2^s<2147483648)(h:vl m 0 8*2^s<D^(k+2)):2147483648≤dg (vl m 0 8*2^s) (k+1):=by
 have e:vl m 0 8=vl m 0 (k+1)+m (k+1)*D^(k+1):=by
  rw[vl_cut (f:=m) (a:=k+2) (b:=8) (by omega) hz,vl,Nat.zero_add]
 have h1:vl m 0 8*2^s/D^(k+1)<D:=Nat.div_lt_of_lt_mul (by rw[← Nat.pow_succ];exact h);unfold dg;rw[Nat.mod_eq_of_lt h1,Nat.le_div_iff_mul_le (Dp _),e,Nat.add_mul];have h2:2147483648*D^(k+1)≤m (k+1)*2^s*D^(k+1):=Nat.mul_le_mul_right _ (by omega);have h3:m (k+1)*D^(k+1)*2^s=m (k+1)*2^s*D^(k+1):=by rw[Nat.mul_right_comm]
 omega
structure GI (u v:Nat→Nat) (p k g r:Nat):Prop where
 e:g*v (k+1)+r=u (p+(k+2))*D+u (p+(k+1))
 q:vl u p (k+3)/vl v 0 (k+2)≤g
 r:r<D
theorem GI.start{u v:Nat→Nat}{p k:Nat}(hp:p+k≤14)(hf:∀ i,i<17→u i<D)(h0:0<v (k+1))(h1:v (k+1)<D) :
  GI u v p k ((u (p+(k+2))*D+u (p+(k+1)))/v (k+1)) ((u (p+(k+2))*D+u (p+(k+1)))%v (k+1)) where
 e:=by rw[Nat.mul_comm,Nat.div_add_mod]
 q:=guess_ge (f:=u) (g:=v) (k:=p) (n:=k+2) (fun i hi=>hf _ (by omega)) (by omega) h0
 r:=Nat.lt_trans (Nat.mod_lt _ h0) h1
theorem GI.lt{u v:Nat→Nat}{p k g r:Nat}(h:GI u v p k g r)(hp:p+k≤14)(hf:∀ i,i<17→u i<D)(h0:0<v (k+1)):g<M:=by
 have e:=h.e;have a1:=hf (p+(k+2)) (by omega);have a2:=hf (p+(k+1)) (by omega);have h3:g≤g*v (k+1):=Nat.le_mul_of_pos_right _ h0;unfold D M at *;omega
theorem GI.dec{u v:Nat→Nat}{p k g r:Nat}(h:GI u v p k g r)(hp:p+k≤14)(hf:∀ i,i<17→u i<D)(hV:0<vl v 0 (k+2))(hw:vl u p (k+3)<D*vl v 0 (k+2))(hc:D≤g∨g*v k>r*D+u (p+k)):0<g∧(g-1)*v (k+1)+(r+v (k+1))=u (p+(k+2))*D+u (p+(k+1))∧vl u p (k+3)/vl v 0 (k+2)≤g-1:=by
 have hlt:vl u p (k+3)/vl v 0 (k+2)<g:=by
  rcases hc with h1|h1
  ·exact Nat.lt_of_lt_of_le ((Nat.div_lt_iff_lt_mul hV).2 hw) h1
  ·exact guess_dec (f:=u) (g:=v) (k:=p) (n:=k) (fun i hi=>hf _ (by omega)) h.e h1
 have hg:0<g:=Nat.lt_of_le_of_lt (Nat.zero_le _) hlt;refine⟨hg,?_,Nat.le_sub_one_of_lt hlt⟩;have e:=h.e;obtain⟨g',rfl⟩:∃ g',g=g'+1:=⟨g-1,by omega⟩
 rw[Nat.add_sub_cancel];rw[Nat.add_mul,Nat.one_mul]at e;omega
theorem top_le{u v:Nat→Nat}{p k:Nat}(hv:∀ i,i<k+2→v i<D)(hw:vl u p (k+3)<D*vl v 0 (k+2)):u (p+(k+2))≤v (k+1):=by
 have h1:vl v 0 (k+1)<D^(k+1):=zb3 fun i hi=>by rw[Nat.zero_add];exact hv _ (by omega)
 have e1:vl v 0 (k+2)=vl v 0 (k+1)+v (k+1)*D^(k+1):=by rw[vl,Nat.zero_add]
 have e2:vl u p (k+3)=vl u p (k+2)+u (p+(k+2))*D^(k+2):=by rw[vl]
 have h2:vl v 0 (k+2)<(v (k+1)+1)*D^(k+1):=by rw[e1,Nat.add_mul,Nat.one_mul];omega
 have h3:D*vl v 0 (k+2)<D*((v (k+1)+1)*D^(k+1)):=Nat.mul_lt_mul_of_pos_left h2 vn;have e3:D*((v (k+1)+1)*D^(k+1))=(v (k+1)+1)*D^(k+2):=by rw[Nat.pow_succ D (k+1)];ac_rfl
 have h4:u (p+(k+2))*D^(k+2)<(v (k+1)+1)*D^(k+2):=by omega
 have:=Nat.lt_of_mul_lt_mul_right h4;omega
structure GF (u v:Nat→Nat) (p k g:Nat):Prop where
 d:g<D
 q:vl u p (k+3)/vl v 0 (k+2)≤g
 m:g*vl v 0 (k+2)<vl u p (k+3)+vl v 0 (k+2)
theorem GI.fin{u v:Nat→Nat}{p k g r:Nat}(h:GI u v p k g r)(hv:∀ i,i<k+2→v i<D)(h0:0<v (k+1))(h1:g<D)(h2:g*v k≤r*D+u (p+k)):GF u v p k g:=
 ⟨h1,h.q,guess_end (f:=u) (g:=v) (k:=p) (n:=k) hv h0 h.e h1 h2⟩
theorem GI.brk{u v:Nat→Nat}{p k g r:Nat}(hp:p+k≤14)(hf:∀ i,i<17→u i<D)(hv:∀ i,i<k+2→v i<D)(h0:0<v (k+1))(hw:vl u p (k+3)<D*vl v 0 (k+2))(e:g*v (k+1)+r=u (p+(k+2))*D+u (p+(k+1)))(q:vl u p (k+3)/vl v 0 (k+2)≤g)(hr:D≤r):GF u v p k g:=by
 have ht:=top_le hv hw;have hl:=hf (p+(k+1)) (by omega);have h1:u (p+(k+2))*D≤v (k+1)*D:=Nat.mul_le_mul_right _ ht;have h2:g*v (k+1)<D*v (k+1):=by rw[Nat.mul_comm D];omega
 have hg:g<D:=Nat.lt_of_mul_lt_mul_right h2;refine⟨hg,q,guess_end (f:=u) (g:=v) (k:=p) (n:=k) hv h0 e hg ?_⟩;have h3:g*v k≤D*D:=Nat.mul_le_mul (by omega) (Nat.le_of_lt (hv k (by omega)));have h4:D*D≤r*D:=Nat.mul_le_mul_right _ hr;omega
theorem mul_w{g v:Nat}(hg:g<D)(hv:v<D):IntKind.u64.wrap ((g:Int)*(v:Int))=((g*v:Nat):Int):=by
 have h:=zep hg hv;rw[show(g:Int)*(v:Int)=((g*v:Nat):Int) by simp];generalize g*v=x at *;simp only[IntKind.wrap_u64];omega
theorem dec_w{g:Nat}(h0:0<g)(hg:g<M):IntKind.u64.wrap ((g:Int)-1)=((g-1:Nat):Int):=by
 simp only[IntKind.wrap_u64];unfold M at hg;omega
theorem add_w{r v:Nat}(hr:r<D)(hv:v<D):IntKind.u64.wrap ((r:Int)+(v:Int))=((r+v:Nat):Int):=by
 simp only[IntKind.wrap_u64];unfold D at *;omega
theorem num_take{f c b:Nat}(hf:f<D)(hc:c<D)(hb:b≤1) :
  ∃ y:Nat,IntKind.u64.wrap (IntKind.u64.wrap (IntKind.u64.wrap ((f:Int)+4294967296)-(c:Int))-(b:Int))=(y:Int)∧y<M∧y%D+c+b=f+D*(1-y/D)∧IntKind.u64.wrap (1-(y:Int)/4294967296)=((1-y/D:Nat):Int)∧y/D≤1:=by
 refine⟨f+D-c-b,?_,?_,?_,?_,?_⟩
 ·simp only[IntKind.wrap_u64];unfold D at *;omega
 ·unfold D M at *;omega
 ·unfold D at *;omega
 ·simp only[IntKind.wrap_u64];unfold D at *;omega
 ·unfold D at *;omega
theorem num_mulc{c d g:Nat}(hc:c<D)(hd:d<D)(hg:g<D) :
  IntKind.u64.wrap (IntKind.u64.wrap ((d:Int)*(g:Int))+(c:Int))=((c+d*g:Nat):Int)∧c+d*g<M∧(c+d*g)/D<D:=by
 have h:=zep hd hg;rw[mul_w hd hg];generalize d*g=p at *;refine⟨?_,?_,?_⟩
 ·simp only[IntKind.wrap_u64];unfold D at *;omega
 ·unfold D M at *;omega
 ·unfold D at *;omega
theorem LX.putQ{w w':World}{bv bu:Nat}{d m q o v u:Nat→Nat}(h:LX w w' bv bu d m q o v u)(i x:Nat):LX w (w'.setCell ⟨w.heap.size+1+1+1+1,i,none⟩ (.int .u64 (x:Nat))) bv bu d m (upd q i x) o v u:=by
 have hg:=h.gu;have hv:=h.lw.gt;rw[h.lw.lv.qq.setCell,zw];exact⟨⟨⟨h.lw.lv.dd.set_other _ (by omega),h.lw.lv.mm.set_other _ (by omega),h.lw.lv.r4.set_other _ (by omega),h.lw.lv.r5.set_other _ (by omega),h.lw.lv.qq.set_same _,h.lw.lv.oo.set_other _ (by omega),zd h.lw.lv.b (by omega) _⟩,h.lw.vv.set_other _ (by omega),hv⟩,h.uu.set_other _ (by omega),hg⟩
theorem LX.putO{w w':World}{bv bu:Nat}{d m q o v u:Nat→Nat}(h:LX w w' bv bu d m q o v u)(i x:Nat):LX w (w'.setCell ⟨w.heap.size+1+1+1+1+1,i,none⟩ (.int .u64 (x:Nat))) bv bu d m q (upd o i x) v u:=by
 have hg:=h.gu;have hv:=h.lw.gt;rw[h.lw.lv.oo.setCell,zw];exact⟨⟨⟨h.lw.lv.dd.set_other _ (by omega),h.lw.lv.mm.set_other _ (by omega),h.lw.lv.r4.set_other _ (by omega),h.lw.lv.r5.set_other _ (by omega),h.lw.lv.qq.set_other _ (by omega),h.lw.lv.oo.set_same _,zd h.lw.lv.b (by omega) _⟩,h.lw.vv.set_other _ (by omega),hv⟩,h.uu.set_other _ (by omega),hg⟩
theorem num_put{c f g:Nat}(hc:c≤1)(hf:f<D)(hg:g<D) :
  IntKind.u64.wrap (IntKind.u64.wrap ((f:Int)+(g:Int))+(c:Int))=((c+(f+g):Nat):Int)∧(c+(f+g))/D≤1∧c+(f+g)<M:=by
 simp only[IntKind.wrap_u64];unfold D M at *;refine⟨by omega,by omega,by omega⟩
theorem num_put2{c f:Nat}(hc:c≤1)(hf:f<D) :
  IntKind.u64.wrap ((f:Int)+(c:Int))=((c+f:Nat):Int)∧(c+f)/D≤1∧c+f<M:=by
 simp only[IntKind.wrap_u64];unfold D M at *;refine⟨by omega,by omega,by omega⟩
theorem back_ends{u u5 u6 v:Nat→Nat}{p k g t:Nat}(hp:p+k≤14)(hV:0<vl v 0 (k+2))(hG:GF u v p k g)(h1:IN u u5 v p (k+2) g 1)(h2:PbO u5 u6 v p (k+2) t)(ht:t≤1):IN u u6 v p (k+2) (g-1) 0:=by
 have h3:=h1.back hV (by omega) h2 ht;rcases Nat.eq_zero_or_pos t with h0|h0
 ·subst h0;exfalso;have h4:=IN.gt (d:=g-1) h3 hV (by omega);have h5:=hG.m;have hg0:0<g:=Nat.lt_of_le_of_lt (Nat.zero_le _) (h1.gt hV (by omega));have h6:(g-1)*vl v 0 (k+2)<vl u p (k+3):=by
   obtain⟨g',rfl⟩:∃ g',g=g'+1:=⟨g-1,by omega⟩
   rw[Nat.add_sub_cancel];rw[Nat.add_mul,Nat.one_mul]at h5;omega
  have h7:g-1≤vl u p (k+3)/vl v 0 (k+2):=(Nat.le_div_iff_mul_le hV).2 (Nat.le_of_lt h6);exact absurd h4 (Nat.not_lt.2 h7)
 ·have:t=1:=by omega
  subst this;exact h3
theorem num_shr{x y s:Nat}(hx:x<D)(hy:y<D)(hs:s<32) :
  bits BinOp.and IntKind.u64 (bits BinOp.or IntKind.u64 ((x:Int)/2^s) (IntKind.u64.wrap ((y:Int)*4294967296)/2^s)) 4294967295=(((x/2^s+y*D/2^s)%D:Nat):Int):=by
 have hD:=D_split s (by omega);have hp:0<2^s:=Nat.two_pow_pos s;have e0:∀ z:Nat,(z:Int)/2^s=((z/2^s:Nat):Int):=fun z=>by simp
 have e1:IntKind.u64.wrap ((y:Int)*4294967296)=((y*D:Nat):Int):=by simp only[IntKind.wrap_u64];unfold D at *;omega
 have hyM:y*D<M:=by unfold D M at *;omega
 have hxM:x<M:=Nat.lt_trans hx (by decide);rw[e1,e0,e0];have a1:x/2^s<M:=Nat.lt_of_le_of_lt (Nat.div_le_self _ _) hxM;have a2:y*D/2^s<M:=Nat.lt_of_le_of_lt (Nat.div_le_self _ _) hyM;rw[ym _ _ a1 a2];have b1:x/2^s<2^(32-s):=Nat.div_lt_of_lt_mul (by rw[← hD];exact hx);have b2:y*D/2^s=2^(32-s)*y:=by
  rw[hD,Nat.mul_comm y,Nat.mul_assoc,Nat.mul_div_cancel_left _ hp]
 have e:x/2^s ||| y*D/2^s=x/2^s+y*D/2^s:=by
  rw[b2,Nat.or_comm,← Nat.two_pow_add_eq_or_of_lt b1,Nat.add_comm]
 have hlt:x/2^s ||| y*D/2^s<M:=by
  have:M=2^64:=by decide
  rw[this]at *;exact Nat.or_lt_two_pow a1 a2
 rw[vx hlt,e]
theorem long_end{d m u q o:Nat→Nat}{k s:Nat}(hk:k≤6)(hm:∀ i,i<8→m i<D)(ht:0<m (k+1))(hz:∀ i,k+2≤i→i<8→m i=0)(hI:DmI (vl d 0 16*2^s) (vl m 0 8*2^s) u q 0)(h1:∀ i,i<k+2→o i=dg (vl u 0 17/2^s) i)(h2:∀ i,k+2≤i→o i=0):LR (vl d 0 16) (vl m 0 8) q o:=by
 have e:vl m 0 8=vl m 0 (k+2):=vl_cut (by omega) hz;have hlt:vl m 0 8<D^(k+2):=by rw[e];exact zb3 fun i hi=>by rw[Nat.zero_add];exact hm i (by omega)
 have h0:0<vl m 0 8:=by
  rw[e,vl,Nat.zero_add];have:=Nat.mul_pos ht (Dp (k+1));omega
 obtain⟨a1,a2,a3⟩:=main_end h0 hI;refine⟨hI.hqd,fun i hi=>?_,a1,?_⟩
 ·rcases Nat.lt_or_ge i (k+2)with h|h
  ·rw[h1 i h];exact za2 _ _
  ·rw[h2 i h];exact vn
 ·rw[if_neg (by omega),vl_cut (f:=o) (a:=k+2) (b:=8) (by omega) (fun i hi _=>h2 i hi),kw (g:=dg (vl u 0 17/2^s)) (fun i hi=>by rw[Nat.zero_add];exact h1 i hi),zai,a2];rw[a2];exact Nat.lt_trans (Nat.mod_lt _ h0) hlt
theorem long_main(d m:Nat→Nat)(k:Nat)(hk:k≤6)(hd:∀ i,i<16→d i<D)(hm:∀ i,i<8→m i<D)(ht:0<m (k+1))(hz:∀ i,k+2≤i→i<8→m i=0)(ct:Hid (∀ w,Calls prog 220 #[A8 m] w fun e w'=>e=.returned (.int .i64 ((k:Int)+2))∧Below w.heap.size w w'))(w:World) :
  Calls prog 148 #[A16 d,A8 m] w fun e w'=>
   (∃ q o,LR (vl d 0 16) (vl m 0 8) q o∧e=.returned (.tuple #[A16 q,A8 o]))∧Below w.heap.size w w':=by
 have GD:Hid ((∀ i,i<16→d i<D)∧(∀ i,i<8→m i<D)∧0<m (k+1)):=⟨hd,hm,ht⟩
 have GZ:Hid _:=hz;clear hz;have hk0:((k:Int)+2 == 0)=false:=by simp;omega
 have hk1:((k:Int)+2 == 1)=false:=by simp;omega
 clear hd hm ht
 go_enter func148,ntmps148
 go_upto_region 3 with fail
 refine wp_region_lit ?_;refine xg rfl 121 (.tmp 3) rfl (w.heap.size+1) rfl .u64 8 m (za.old (za.old (za.old (za.old (za.last (by simp)))))) underlying121 (by kernel_rfl) ?_
 go_wp2_with fail
 refine(ct.out _).mono ?_;rintro e w1 ⟨rfl,hb1⟩;have F1:LV w w1 d m (fun _=>0) (fun _=>0):=⟨(za.old (za.old (za.old (za.old (za.old (za.last rfl)))))).below hb1,(za.old (za.old (za.old (za.old (za.last (by simp)))))).below hb1,(za.old (za.old (za.old (za.last (by simp))))).below hb1,(za.old (za.old (za.last (by simp)))).below hb1,(za.old (za.last (by simp))).below hb1,(za.last (by simp)).below hb1,yr (by(repeat(first | exact Below.refl _ _ | refine zg ?_ _))) hb1⟩
 have K1:Hid _:=F1;clear hb1;have cm:w1.cell? ⟨w.heap.size+1,k+1,none⟩=some (.int .u64 (m (k+1):Nat)):=by rw[F1.mm.cell,zj,if_pos (by omega)]
 clear F1
 go_wp2
 go_loopw [12] (fun s w'=>∃ sn:Nat,s=B sn∧w'=w1∧m (k+1)*2^sn<D) (fun s _=>32-(intOf s).toNat)
 case atStart=>exact⟨0,rfl,rfl,by rw[Nat.pow_zero,Nat.mul_one];exact GD.out.2.1 _ (by omega)⟩
 case round=>
  obtain⟨sn,rfl,rfl,hs⟩:=hrel;have KS:Hid _:=hs;have hs32:=pow_small GD.out.2.2 hs;have hT:=top_test hs;rw[← shl_w (x:=m (k+1)) (s:=sn) (by omega) (Nat.lt_trans hs (by decide))]at hT;clear hs;by_cases hlow:m (k+1)*2^sn<2147483648
  ·rw[decide_eq_true hlow]at hT
   go_wp2
   go_roundw
   case rel=>
    refine⟨sn+1,?_,by first|trivial|rfl,?_⟩
    ·refine congrArg _ ?_
     first|omega|(simp only[IntKind.wrap_u64];omega)
    ·rw[Nat.pow_succ,← Nat.mul_assoc];unfold D;omega
   case measure=>
    first|(simp only[intOf];omega)|(simp only[intOf,IntKind.wrap_u64];omega)
  ·rw[decide_eq_false hlow]at hT;have hbv:w.heap.size+1+1+1+1+1<wr.heap.size:=K1.out.oo.lt;have W0:Hid (LW w (wr.alloc (Obj.cells (ag .u64 8 (fun _=>0)) 121)) wr.heap.size d m (fun _=>0) (fun _=>0) (fun _=>0)):=⟨⟨K1.out.dd.old,K1.out.mm.old,K1.out.r4.old,K1.out.r5.old,K1.out.qq.old,K1.out.oo.old,zg K1.out.b _⟩,za.last rfl,hbv⟩
   go_wp2
   clear hT cm;have hbv2:Hid (wr.heap.size=wr.heap.size):=rfl;generalize wr.heap.size=bv at *
   go_loopw [14] (fun i w'=>∃(t:Nat) (v:Nat→Nat),t≤k+1∧i=.int .i64 (t:Int)∧LW w w' bv d m (fun _=>0) (fun _=>0) v∧(∀ i,t<i→i≤k+1→v i=dg (vl m 0 8*2^sn) i)∧(∀ i,k+1<i→v i=0)) (fun i _=>(intOf i).toNat)
   case atStart=>exact⟨k+1,fun _=>0,Nat.le_refl _,by(refine congrArg _ ?_;omega),W0.out,fun i h1 h2=>by omega,fun _ _=>rfl⟩
   case round=>
    obtain⟨t,v,htk,rfl,hS,hA,hB⟩:=hrel;clear W0;have KW:Hid _:=hS;have KA:Hid _:=hA;have KB:Hid _:=hB;clear hA hB;rcases t with _|p
    ·have x1:=hS.lv.mm.cell 0;rw[zj,if_pos (by omega)]at x1;have x2:=hS.vv.cell 0;rw[zj,if_pos (by omega)]at x2;have x3:=hS.vv.frozen 0;have x4:=hS.lv.dd.cell 15;rw[zj,if_pos (by omega)]at x4;have x5:=hS.lv.dd.lt;have x6:=hS.lv.mm.lt;have x7:=hS.vv.lt;clear hS
     go_wp2
     obtain⟨gd,gm,_⟩:=GD.out;have e1:bits BinOp.and IntKind.u64 (IntKind.u64.wrap ((m 0:Int)*2^sn)) 4294967295=((m 0*2^sn%D:Nat):Int):=by
      obtain⟨a1,_⟩:=zbm (gm 0 (by omega)) hs32;rw[shl_w (by omega) a1,vx a1]
     have e2:IntKind.u64.wrap ((d 15:Int)*2^sn)/4294967296=((d 15*2^sn/D:Nat):Int):=by
      obtain⟨a1,_⟩:=zbm (gd 15 (by omega)) hs32;rw[shl_w (by omega) a1,ku]
     rw[e1,e2];have L2:=KW.out.putV 0 (m 0*2^sn%D);have hsize:wr.heap.size=(wr.setCell ⟨bv,0,none⟩ (.int .u64 ((m 0*2^sn%D:Nat):Int))).heap.size:=by rw[KW.out.vv.setCell,qj]
     have VA:Hid (∀ i,i<8→upd v 0 (m 0*2^sn%D) i=dg (vl m 0 8*2^sn) i∨k+1<i∧upd v 0 (m 0*2^sn%D) i=0):=fun i hi=>by
      by_cases h0:i=0
      ·subst h0;left;rw[qo,dg_up0 gm (by decide)]
      ·rw[yd _ _ _ h0];rcases Nat.lt_or_ge (k+1) i with h1|h1
       ·right;exact⟨h1,KB.out i h1⟩
       ·left;exact KA.out i (by omega) h1
     rw[hsize];generalize wr.setCell ⟨bv,0,none⟩ (.int .u64 ((m 0*2^sn%D:Nat):Int))=w3,upd v 0 (m 0*2^sn%D)=v2 at *;have X0:Hid (LX w (w3.alloc (Obj.cells (ag .u64 17 (upd (fun _=>0) 16 (d 15*2^sn/D))) 151)) bv w3.heap.size d m (fun _=>0) (fun _=>0) v2 (upd (fun _=>0) 16 (d 15*2^sn/D))):=⟨⟨⟨L2.lv.dd.old,L2.lv.mm.old,L2.lv.r4.old,L2.lv.r5.old,L2.lv.qq.old,L2.lv.oo.old,zg L2.lv.b _⟩,L2.vv.old,L2.gt⟩,za.last rfl,L2.vv.lt⟩
     clear L2 hsize e1 e2 x1 x2 x3 x4 x5 x6 x7 KW KA KB gd gm;generalize w3.heap.size=bu at *
     go_loopw [16] (fun i w'=>∃(t:Nat) (u:Nat→Nat),t≤15∧i=.int .i64 (t:Int)∧LX w w' bv bu d m (fun _=>0) (fun _=>0) v2 u∧(∀ i,t<i→i<17→u i=dg (vl d 0 16*2^sn) i)) (fun i _=>(intOf i).toNat)
     case atStart=>exact⟨15,_,Nat.le_refl _,rfl,X0.out,fun i h1 h2=>by rw[show i=16 by omega,qo,dg_up_top GD.out.1 hs32]⟩
     case round=>
      obtain⟨t,u,htk2,rfl,hS,hA⟩:=hrel;clear X0;have KW:Hid _:=hS;have KA:Hid _:=hA;clear hA;rcases t with _|p
      ·have x1:=hS.lw.lv.dd.cell 0;rw[zj,if_pos (by omega)]at x1;have x2:=hS.uu.cell 0;rw[zj,if_pos (by omega)]at x2;have x3:=hS.uu.frozen 0;clear hS
       go_wp2
       obtain⟨gd,gm,_⟩:=GD.out;have e1:bits BinOp.and IntKind.u64 (IntKind.u64.wrap ((d 0:Int)*2^sn)) 4294967295=((d 0*2^sn%D:Nat):Int):=by
        obtain⟨a1,_⟩:=zbm (gd 0 (by omega)) hs32;rw[shl_w (by omega) a1,vx a1]
       rw[e1];have X1:Hid _:=KW.out.putU 0 (d 0*2^sn%D);have UA:Hid (∀ i,i<17→upd u 0 (d 0*2^sn%D) i=dg (vl d 0 16*2^sn) i):=fun i hi=>by
        by_cases h0:i=0
        ·subst h0;rw[qo,dg_up0 gd (by decide)]
        ·rw[yd _ _ _ h0];exact KA.out i (by omega) hi
       generalize wr.setCell ⟨bu,0,none⟩ (.int .u64 ((d 0*2^sn%D:Nat):Int))=w4,upd u 0 (d 0*2^sn%D)=u2 at *;clear e1 x1 x2 x3 KW KA gd gm;have MS:=main_start GD.out.1 GD.out.2.1 hk GD.out.2.2 GZ.out hs32 KS.out (fun i hi=>by
        rcases VA.out i (by omega)with h|⟨h,_⟩
        ·exact h
        ·omega) UA.out
       obtain⟨eV,gv,I0⟩:=MS;have EV:Hid _:=eV;have GV:Hid _:=gv;have KI0:Hid _:=I0;have NV:Hid (2147483648≤v2 (k+1)):=by
        have e:v2 (k+1)=dg (vl m 0 8*2^sn) (k+1):=by
         rcases VA.out (k+1) (by omega)with h|⟨h,_⟩
         ·exact h
         ·omega
        show 2147483648≤v2 (k+1);rw[e];exact top_big hk GZ.out hlow (div_shl GD.out.2.1 hk GZ.out hs32 KS.out)
       clear eV gv I0 UA VA
       go_loopw [17] (fun i w'=>∃(t:Nat) (u q:Nat→Nat),t≤15-k∧i=.int .i64 ((t:Int)-1)∧LX w w' bv bu d m q (fun _=>0) v2 u∧DmI (vl d 0 16*2^sn) (vl v2 0 (k+2)) u q t) (fun i _=>(intOf i+1).toNat)
       case atStart=>exact⟨15-k,u2,fun _=>0,Nat.le_refl _,by(refine congrArg _ ?_;omega),X1.out,KI0.out⟩
       case round=>
        obtain⟨t,u,q,htk3,rfl,hS,hI⟩:=hrel;clear X1 KI0;have KW:Hid _:=hS;have KI:Hid _:=hI;clear hI;rcases t with _|p
        ·rw[show((0:Nat):Int)-1 = -1 by rfl];clear hS
         go_wp2
         go_loopw [29] (fun i w'=>∃(t:Nat) (o:Nat→Nat),t≤k+2∧i=.int .i64 (t:Int)∧LX w w' bv bu d m q o v2 u∧(∀ i,i<t→o i=dg (vl u 0 17/2^sn) i)∧(∀ i,t≤i→o i=0)) (fun i _=>k+2-(intOf i).toNat)
         case atStart=>exact⟨0,fun _=>0,Nat.zero_le _,rfl,KW.out,fun i hi=>by omega,fun _ _=>rfl⟩
         case round=>
          obtain⟨t,o,htn,rfl,hS,hA,hB⟩:=hrel;clear KW;have KY:Hid _:=hS;have KA:Hid _:=hA;have KB:Hid _:=hB;clear hA hB;by_cases hlt:t<k+2
          ·have y1:=hS.uu.cell t;rw[zj,if_pos (by omega)]at y1;have y2:=hS.uu.cell (t+1);rw[zj,if_pos (by omega)]at y2;have o1:=hS.lw.lv.oo.cell t;rw[zj,if_pos (by omega)]at o1;clear hS
           go_wp2
           have z1:=cell_regrown y1;have z2:=cell_regrown y2;have z3:=cell_regrown o1;refine zh (by kernel_rfl) (by kernel_rfl) (by simp) ?_;simp only[List.dropLast]
           repeat(go_big_quiet_step (fail))
           refine wpQuiet_nil ?_;intro w' hw';obtain⟨⟨dq,osq⟩,rfl⟩:=hw';have hbq:=below_regrown wr dq osq;have G0:=KY.out.grown hbq;have c1:=G0.lw.lv.oo.cell t;rw[zj,if_pos (by omega)]at c1;have c2:=G0.lw.lv.oo.frozen t;have KG:Hid _:=G0;clear z1 z2 z3 G0 hbq y1 y2 o1;generalize grow (redrawn wr dq) osq=wg at *;refine yj rfl rfl ?_
           go_simp
           go_wp2
           refine⟨?ex,?mea⟩
           case ex=>
            (repeat apply Exists.intro)
            refine⟨?rel,rfl⟩
            case rel=>
             refine⟨t+1,upd o t ((u t/2^sn+u (t+1)*D/2^sn)%D),by omega,rfl,?_,fun i h1=>?_,fun i h1=>?_⟩
             ·rw[num_shr (KI.out.hf t (by omega)) (KI.out.hf (t+1) (by omega)) hs32];exact KG.out.putO t _
             ·by_cases e:i=t
              ·subst e;rw[qo,dg_shr _ _ _ (by omega),dg_vl KI.out.hf (by omega),dg_vl KI.out.hf (by omega)]
              ·rw[yd _ _ _ e];exact KA.out i (by omega)
             ·rw[yd _ _ _ (by omega)];exact KB.out i (by omega)
           case mea=>simp[intOf];omega
          ·have hte:t=k+2:=by omega
           subst hte;clear hS
           go_wp2
           have F2:=KY.out.lw.lv;have IE:Hid (LR (vl d 0 16) (vl m 0 8) q o):=long_end hk GD.out.2.1 GD.out.2.2 GZ.out (by have:=KI.out;rwa [EV.out]at this) KA.out KB.out;refine zaa (by kernel_rfl) (by kernel_rfl) (by kernel_rfl) (CL w q o) ?_ ?_ ?_
           ·refine⟨F2.b.drew,F2.qq,F2.oo,?_,?_,⟨_,F2.r4,zo _ _ _,?_⟩,⟨_,F2.r5,zo _ _ _,?_⟩⟩<;>(intro h;simp[Array.getD]at h)
           ·intro zb vs a' w' i o' hs ho hi hF cc;have hi4:i<4:=by have:=(Array.getElem?_eq_some_iff.1 ho).1;simpa using this
            have hcase:i=0∨i=1∨i=2∨i=3:=by omega
            rcases hcase with rfl|rfl|rfl|rfl
            ·simp at ho;subst ho;have T:=dTz zb 0;exact kz 120 (.tmp 6) rfl (w.heap.size+1+1+1+1) ((hF.old (by kernel_rfl)).trans rfl) cc.qq (zo _ _ _) underlying120 (by kernel_rfl) ⟨_,rfl,⟨cc.b,cc.qq,cc.oo,fun _=>rfl,uz cc.c1,by obtain⟨c,h2,h3,h4⟩:=cc.c2;exact⟨c,h2,h3,fun h=>h4 (T 2 (by decide) h)⟩,by obtain⟨c,h2,h3,h4⟩:=cc.c3;exact⟨c,h2,h3,fun h=>h4 (T 3 (by decide) h)⟩⟩⟩
            ·simp at ho;subst ho;have T:=dTz zb 1;exact kz 121 (.tmp 7) rfl (w.heap.size+1+1+1+1+1) ((hF.old (by kernel_rfl)).trans rfl) cc.oo (zo _ _ _) underlying121 (by kernel_rfl) ⟨_,rfl,⟨cc.b,cc.qq,cc.oo,uz cc.c0,fun _=>rfl,by obtain⟨c,h2,h3,h4⟩:=cc.c2;exact⟨c,h2,h3,fun h=>h4 (T 2 (by decide) h)⟩,by obtain⟨c,h2,h3,h4⟩:=cc.c3;exact⟨c,h2,h3,fun h=>h4 (T 3 (by decide) h)⟩⟩⟩
            ·simp at ho;subst ho;have T:=dTz zb 2;have hv:=(hF.new (t:=309) (i:=0) (by kernel_rfl) (by simp) (zf (i:=2) (j:=0) (by kernel_rfl) hi)).trans (cc.c0 (zf (i:=2) (j:=0) (by kernel_rfl) hi));obtain⟨c,h2,h3,h4⟩:=cc.c2;obtain⟨c',k2,k3,k4⟩:=cc.c3
             exact vb 120 (.tmp 4) (.tmp 309) rfl (w.heap.size+1+1) (c':=ag .u64 16 q) ((hF.old (by kernel_rfl)).trans rfl) hv h2 h3 (zo _ _ _) (zdm _ _ _) (by kernel_rfl) ⟨_,rfl,⟨zd cc.b (by omega) _,cc.qq.set_other _ (by omega),cc.oo.set_other _ (by omega),uz cc.c0,uz cc.c1,⟨_,h2.set_same _,zo _ _ _,fun _=>rfl⟩,⟨c',k2.set_other _ (by omega),k3,fun h=>k4 (T 3 (by decide) h)⟩⟩⟩
            ·simp at ho;subst ho;have T:=dTz zb 3;have hv:=(hF.new (t:=310) (i:=1) (by kernel_rfl) (by simp) (zf (i:=3) (j:=1) (by kernel_rfl) hi)).trans (cc.c1 (zf (i:=3) (j:=1) (by kernel_rfl) hi));obtain⟨c,h2,h3,h4⟩:=cc.c3;obtain⟨c',k2,k3,k4⟩:=cc.c2
             exact vb 121 (.tmp 5) (.tmp 310) rfl (w.heap.size+1+1+1) (c':=ag .u64 8 o) ((hF.old (by kernel_rfl)).trans rfl) hv h2 h3 (zo _ _ _) (zdm _ _ _) (by kernel_rfl) ⟨_,rfl,⟨zd cc.b (by omega) _,cc.qq.set_other _ (by omega),cc.oo.set_other _ (by omega),uz cc.c0,uz cc.c1,⟨c',k2.set_other _ (by omega),k3,fun h=>k4 (T 2 (by decide) h)⟩,⟨_,h2.set_same _,zo _ _ _,fun _=>rfl⟩⟩⟩
           ·intro zb vs a' w' hd hF cc;obtain⟨c,h2,h3,h4⟩:=cc.c2;obtain⟨c',k2,k3,k4⟩:=cc.c3;have hx4:a'.eval (.tmp 4)=.pointer (some ⟨w.heap.size+1+1,0,none⟩):=(hF.old (by kernel_rfl)).trans rfl;have hx5:a'.eval (.tmp 5)=.pointer (some ⟨w.heap.size+1+1+1,0,none⟩):=(hF.old (by kernel_rfl)).trans rfl;have hr:=xx (P:=prog) (fn:=Tryz.f148) rfl a' w' hx4 hx5 h2 k2 h3 k3 underlying120 (by kernel_rfl) underlying121 (by kernel_rfl);rw[h4 (hd 2 (by simp)),k4 (hd 3 (by simp))]at hr;have HR:Hid _:=hr;have HB:Hid _:=cc.b;have HD:Hid (a'.defers=[]):=hF.1
            clear hr cc hF hx4 hx5 h2 h3 h4 k2 k3 k4
            go_wp2
            exact bodyPost_ret HR.out HD.out ⟨⟨q,o,IE.out,rfl⟩,HB.out⟩
        ·rw[show((p+1:Nat):Int)-1=(p:Int) by omega];have x1:=hS.uu.cell (p+(k+2));rw[zj,if_pos (by omega)]at x1;have x2:=hS.uu.cell (p+(k+1));rw[zj,if_pos (by omega)]at x2;have x3:=hS.lw.vv.cell (k+1);rw[zj,if_pos (by omega)]at x3;have x4:=hS.lw.vv.cell k;rw[zj,if_pos (by omega)]at x4;have x5:=hS.uu.cell (p+k);rw[zj,if_pos (by omega)]at x5;have x6:=x5;rw[show p+k=p+(k+2)-2 by omega]at x6;rw[show u (p+(k+2)-2)=u (p+k)from congrArg u (by omega)]at x6;have hv1:¬ ((v2 (k+1):Nat):Int)=0:=by have:=NV.out;omega
         have hv0:0<v2 (k+1):=by have:=NV.out;omega
         have hpk:p+k≤14:=by omega
         clear hS
         go_wp2
         go_quiet (fail)
         go_wp2
         obtain⟨n1,n2,n3⟩:=num_one (KI.out.hf (p+(k+2)) (by omega)) (KI.out.hf (p+(k+1)) (by omega)) hv0;rw[n2,n3,or_two (KI.out.hf (p+(k+2)) (by omega)) (KI.out.hf (p+(k+1)) (by omega))];clear n1 n2 n3;have G0:Hid _:=GI.start (u:=u) (v:=v2) hpk KI.out.hf hv0 (GV.out _ (by omega));have HV0:Hid (0<vl v2 0 (k+2)):=by
          show 0<vl v2 0 (k+2);rw[vl];have:=Nat.mul_pos hv0 (Dp (k+1));rw[Nat.zero_add];omega
         have HVn:Hid (vl v2 0 (k+2)<D^(k+2)):=zb3 fun i hi=>by rw[Nat.zero_add];exact GV.out _ hi
         have HWn:Hid (vl u p (k+3)<D*vl v2 0 (k+2)):=KI.out.window (n:=k+2) (by omega) HVn.out;generalize (u (p+(k+2))*D+u (p+(k+1)))/v2 (k+1)=g0,(u (p+(k+2))*D+u (p+(k+1)))%v2 (k+1)=r0 at *;generalize u (p+(k+2))*D+u (p+(k+1))=two at *;rename_i K hK
         have CONT:Hid (∀(gq:Nat) (w':World),GF u v2 p k gq→LX w w' bv bu d m q (fun _=>0) v2 u→∀{y18 y20 y21 y22 y23 y24 y25 y26 y27 y28 y135 y136 y137 y138 y139 y140 y141 y142 y143 y144 y145 y146 y147 y148 y149 y150 y151 y152 y153 y154 y155 y156 y157 y158 y159 y160 y161 y162 y163 y164 y165 y166 y167 y168 y169 y170 y171 y172 y173 y174 y175 y176 y177 y178 y179 y180 y181 y182 y183 y184 y185 y186 y187 y188 y189 y190 y191 y192 y193 y194 y195 y196 y197 y198 y199 y200 y201 y202 y203 y204 y205 y206 y207 y208 y209 y210 y211 y212 y213 y214 y215 y216 y217 y218 y219 y220 y221 y222 y223 y224 y225 y226 y227 y228 y229 y230 y231 y232 y233 y234 y235 y236 y237 y238 y239 y240 y241 y242 y243 y244 y245 y246 y247 y248 y249 y250 y251 y252 y253 y254 y255 y256 y257 y258 y259 y260 y261 y262 y263 y264 y265 y266 y267 y268 y269 y270 y271 y272 y273 y274 y275 y276 y277 y278 y279 y280 y281 y282 y283 y284 y285 y286 y287:Value},K { tmps:=#[A16 d,A8 m,Value.pointer (some ⟨w.heap.size,0,none⟩),Value.pointer (some ⟨w.heap.size+1,0,none⟩),Value.pointer (some ⟨w.heap.size+1+1,0,none⟩),Value.pointer (some ⟨w.heap.size+1+1+1,0,none⟩),Value.pointer (some ⟨w.heap.size+1+1+1+1,0,none⟩),Value.pointer (some ⟨w.heap.size+1+1+1+1+1,0,none⟩),Value.int IntKind.i64 (((k:Nat):Int)+2),undef,undef,undef,B sn,Value.pointer (some ⟨bv,0,none⟩),Value.int IntKind.i64 0,Value.pointer (some ⟨bu,0,none⟩),Value.int IntKind.i64 0,Value.int IntKind.i64 ((p:Nat):Int),y18,B gq,y20,y21,y22,y23,y24,y25,y26,y27,y28,undef,Value.agg (ag IntKind.u64 8 m),Value.int IntKind.i64 (((k:Nat):Int)+2),Value.int IntKind.i64 (((k:Nat):Int)+2),Value.bool false,undef,undef,Value.int IntKind.i64 (((k:Nat):Int)+2),Value.bool false,undef,undef,undef,undef,undef,undef,undef,undef,undef,undef,undef,undef,undef,undef,undef,undef,undef,undef,undef,undef,undef,undef,undef,undef,Value.int IntKind.i64 (((k:Nat):Int)+2),Value.int IntKind.i64 (((k:Nat):Int)+2-1),Value.pointer (some ⟨w.heap.size+1,k+1,none⟩),Value.int IntKind.u64 ((m (k+1):Nat):Int),B sn,Value.int IntKind.u64 (IntKind.u64.wrap (((m (k+1):Nat):Int)*2^sn)),Value.int IntKind.u64 (IntKind.u64.wrap (((m (k+1):Nat):Int)*2^sn)/2147483648),Value.int IntKind.u64 (bits BinOp.and IntKind.u64 (IntKind.u64.wrap (((m (k+1):Nat):Int)*2^sn)/2147483648) 1),Value.bool false,u71,u72,Value.int IntKind.i64 (((k:Nat):Int)+2),Value.int IntKind.i64 (((k:Nat):Int)+2-1),Value.int IntKind.i64 0,Value.bool false,u77,u78,u79,u80,u81,u82,u83,u84,u85,u86,u87,u88,u89,u90,u91,u92,u93,u94,Value.pointer (some ⟨w.heap.size+1,0,none⟩),Value.int IntKind.u64 ((m 0:Nat):Int),B sn,Value.int IntKind.u64 (IntKind.u64.wrap (((m 0:Nat):Int)*2^sn)),Value.int IntKind.u64 (((m 0:Nat):Int)*2^sn%((D:Nat):Int)),Value.pointer (some ⟨bv,0,none⟩),Value.pointer (some ⟨w.heap.size,15,none⟩),Value.int IntKind.u64 ((d 15:Nat):Int),B sn,Value.int IntKind.u64 (IntKind.u64.wrap (((d 15:Nat):Int)*2^sn)),Value.int IntKind.u64 (((d 15:Nat):Int)*2^sn/((D:Nat):Int)),Value.pointer (some ⟨bu,16,none⟩),Value.int IntKind.i64 0,Value.bool false,u109,u110,u111,u112,u113,u114,u115,u116,u117,u118,u119,u120,u121,u122,u123,u124,u125,u126,Value.pointer (some ⟨w.heap.size,0,none⟩),Value.int IntKind.u64 ((d 0:Nat):Int),B sn,Value.int IntKind.u64 (IntKind.u64.wrap (((d 0:Nat):Int)*2^sn)),Value.int IntKind.u64 ((d 0*2^sn%D:Nat):Int),Value.pointer (some ⟨bu,0,none⟩),Value.int IntKind.i64 (((k:Nat):Int)+2),Value.int IntKind.i64 (16-(((k:Nat):Int)+2)),y135,y136,y137,y138,y139,y140,y141,y142,y143,y144,y145,y146,y147,y148,y149,y150,y151,y152,y153,y154,y155,y156,y157,y158,y159,y160,y161,y162,y163,y164,y165,y166,y167,y168,y169,y170,y171,y172,y173,y174,y175,y176,y177,y178,y179,y180,y181,y182,y183,y184,y185,y186,y187,y188,y189,y190,y191,y192,y193,y194,y195,y196,y197,y198,y199,y200,y201,y202,y203,y204,y205,y206,y207,y208,y209,y210,y211,y212,y213,y214,y215,y216,y217,y218,y219,y220,y221,y222,y223,y224,y225,y226,y227,y228,y229,y230,y231,y232,y233,y234,y235,y236,y237,y238,y239,y240,y241,y242,y243,y244,y245,y246,y247,y248,y249,y250,y251,y252,y253,y254,y255,y256,y257,y258,y259,y260,y261,y262,y263,y264,y265,y266,y267,y268,y269,y270,y271,y272,y273,y274,y275,y276,y277,y278,y279,y280,y281,y282,y283,y284,y285,y286,y287,undef,undef,undef,undef,undef,undef,undef,undef,undef,undef,undef,undef,undef,undef,undef,undef,undef,undef,undef,undef,undef,undef,undef],defers:=[] } w'):=by
          intro gq w' hGF hLX y18 y20 y21 y22 y23 y24 y25 y26 y27 y28 y135 y136 y137 y138 y139 y140 y141 y142 y143 y144 y145 y146 y147 y148 y149 y150 y151 y152 y153 y154 y155 y156 y157 y158 y159 y160 y161 y162 y163 y164 y165 y166 y167 y168 y169 y170 y171 y172 y173 y174 y175 y176 y177 y178 y179 y180 y181 y182 y183 y184 y185 y186 y187 y188 y189 y190 y191 y192 y193 y194 y195 y196 y197 y198 y199 y200 y201 y202 y203 y204 y205 y206 y207 y208 y209 y210 y211 y212 y213 y214 y215 y216 y217 y218 y219 y220 y221 y222 y223 y224 y225 y226 y227 y228 y229 y230 y231 y232 y233 y234 y235 y236 y237 y238 y239 y240 y241 y242 y243 y244 y245 y246 y247 y248 y249 y250 y251 y252 y253 y254 y255 y256 y257 y258 y259 y260 y261 y262 y263 y264 y265 y266 y267 y268 y269 y270 y271 y272 y273 y274 y275 y276 y277 y278 y279 y280 y281 y282 y283 y284 y285 y286 y287
          refine hK _ _ ?_;clear hK G0 x1 x2 x3 x4 x5 x6;have KF:Hid _:=hGF;have KX:Hid _:=hLX;clear hGF hLX KW
          go_wp2
          go_loopw [21,22,23] (fun b c i w'=>∃(t bn cn:Nat) (u':Nat→Nat),t≤k+2∧i=.int .i64 (t:Int)∧b=B bn∧c=B cn∧LX w w' bv bu d m q (fun _=>0) v2 u'∧TK u u' v2 gq p t cn bn) (fun _ _ i _=>k+2-(intOf i).toNat)
          case atStart=>exact⟨0,0,0,u,Nat.zero_le _,rfl,rfl,rfl,KX.out,TK.start KI.out.hf⟩
          case round=>
           obtain⟨t,bn,cn,u',htn,rfl,rfl,rfl,hS,hT⟩:=hrel;clear KX;have KY:Hid _:=hS;have KT:Hid _:=hT;clear hT;by_cases hlt:t<k+2
           ·have y1:=hS.lw.vv.cell t;rw[zj,if_pos (by omega)]at y1;have y2:=hS.uu.cell (t+p);rw[zj,if_pos (by omega)]at y2;have y3:=hS.uu.frozen (t+p);clear hS
            go_wp2
            go_roundw
            case rel=>
             have T:=KT.out;obtain⟨e1,e2,e3⟩:=num_mulc T.hc KF.out.d (GV.out t hlt);obtain⟨y,e4,e5,e6,e7,e8⟩:=num_take (T.hf (t+p) (by omega)) (Nat.mod_lt (cn+gq*v2 t) vn) T.hb;have ei:t+p=p+t:=Nat.add_comm _ _;refine⟨t+1,1-y/D,(cn+gq*v2 t)/D,upd u' (p+t) (y%D),by omega,by go_num,?_,?_,?_,T.step (Nat.mod_lt _ vn) (Nat.sub_le _ _) e3 (by rw[← ei];exact e6)⟩
             ·rw[e1,vx e2,e4,e7]
             ·rw[e1,ku]
             ·rw[e1,vx e2,e4,vx e5,← ei];exact KY.out.putU (t+p) (y%D)
            case measure=>simp[intOf];omega
           ·have hte:t=k+2:=by omega
            subst hte;have y2:=hS.uu.cell (p+(k+2));rw[zj,if_pos (by omega)]at y2;have y3:=hS.uu.frozen (p+(k+2));clear hS
            go_upto_region 54 with fail
            obtain⟨y,e4,e5,e6,e7,e8⟩:=num_take (KT.out.hf (p+(k+2)) (by omega)) KT.out.hc KT.out.hb;rw[e4,vx e5];have X5:LX w (wr.setCell ⟨bu,p+(k+2),none⟩ (.int .u64 ((y%D:Nat):Int))) bv bu d m q (fun _=>0) v2 (upd u' (p+(k+2)) (y%D)):=KY.out.putU (p+(k+2)) (y%D);have F5:Hid (IN u (upd u' (p+(k+2)) (y%D)) v2 p (k+2) gq (1-y/D)):=IN.ofTO (KT.out.stop (Nat.mod_lt _ vn) e6) KF.out.q KF.out.d;clear e4 e6 e7 y2 y3 KY KT;generalize wr.setCell ⟨bu,p+(k+2),none⟩ (.int .u64 ((y%D:Nat):Int))=w5,upd u' (p+(k+2)) (y%D)=u5 at *;have K5:Hid _:=X5;rcases Nat.eq_zero_or_pos (y/D)with hy | hy
            ·have hyb:((y:Int)/4294967296 == 0)=true:=by rw[ku,hy];rfl
             have F6:Hid (IN u u5 v2 p (k+2) gq 1):=by have:=F5.out;rwa [hy]at this
             have hg0:0<gq:=Nat.lt_of_le_of_lt (Nat.zero_le _) (F6.out.gt HV0.out (by omega));have eg:=dec_w hg0 (Nat.lt_trans KF.out.d (by decide));clear X5 F5
             go_wp2
             try rw[eg]
             clear eg hyb
             go_loopw [22,27] (fun c i w'=>∃(t cn:Nat) (u':Nat→Nat),t≤k+2∧i=.int .i64 (t:Int)∧c=B cn∧LX w w' bv bu d m q (fun _=>0) v2 u'∧PK u5 u' v2 p t cn) (fun _ i _=>k+2-(intOf i).toNat)
             case atStart=>exact⟨0,0,u5,Nat.zero_le _,rfl,rfl,K5.out,PK.start F6.out.hf⟩
             case round=>
              obtain⟨t,cn2,u6,htn2,rfl,rfl,hS,hT⟩:=hrel;clear K5;have KY:Hid _:=hS;have KT:Hid _:=hT;clear hT;by_cases hlt:t<k+2
              ·have y1:=hS.lw.vv.cell t;rw[zj,if_pos (by omega)]at y1;have y2:=hS.uu.cell (t+p);rw[zj,if_pos (by omega)]at y2;have y3:=hS.uu.frozen (t+p);clear hS
               go_wp2
               go_quiet (fail)
               go_wp2
               go_roundw
               case rel=>
                have T:=KT.out;obtain⟨e1,e2,e3⟩:=num_put T.hc (T.hf (t+p) (by omega)) (GV.out t hlt);have ei:t+p=p+t:=Nat.add_comm _ _;refine⟨t+1,_,upd u6 (p+t) ((cn2+(u6 (p+t)+v2 t))%D),by omega,by go_num,?_,?_,T.step (by rw[← ei];exact e2)⟩
                ·rw[e1,ku,ei]
                ·rw[e1,vx e3,← ei];exact(KY.out.grown (xk (Below.refl _ _) _)).putU (t+p) _
               case measure=>simp[intOf];omega
              ·have hte:t=k+2:=by omega
               subst hte;have y2:=hS.uu.cell (p+(k+2));rw[zj,if_pos (by omega)]at y2;have y3:=hS.uu.frozen (p+(k+2));clear hS
               go_upto_region 64 with fail
               obtain⟨e1,e2,e3⟩:=num_put2 KT.out.hc (KT.out.hf (p+(k+2)) (by omega));rw[e1,vx e3];have X7:=KY.out.putU (p+(k+2)) ((cn2+u6 (p+(k+2)))%D);have F7:Hid (IN u (upd u6 (p+(k+2)) ((cn2+u6 (p+(k+2)))%D)) v2 p (k+2) (gq-1) 0):=back_ends hpk HV0.out KF.out F6.out KT.out.stop e2;clear e1 e2 e3 y2 y3 KY KT;generalize wr.setCell ⟨bu,p+(k+2),none⟩ (.int .u64 (((cn2+u6 (p+(k+2)))%D:Nat):Int))=w7,upd u6 (p+(k+2)) ((cn2+u6 (p+(k+2)))%D)=u7 at *;have K7:Hid _:=X7;have z1:=X7.lw.lv.qq.cell p;rw[zj,if_pos (by omega)]at z1;have z2:=X7.lw.lv.qq.frozen p;clear X7
               go_wp2
               refine⟨?ex,?mea⟩
               case ex=>
                (repeat apply Exists.intro)
                refine⟨?rel,rfl⟩
                case rel=>exact⟨p,u7,upd q p (gq-1),by omega,rfl,K7.out.putQ p (gq-1),KI.out.step (by omega) HV0.out HVn.out F7.out⟩
               case mea=>simp[intOf];try omega
            ·have hyb:((y:Int)/4294967296 == 0)=false:=by rw[ku,show y/D=1 by omega];rfl
             have F6:Hid (IN u u5 v2 p (k+2) gq 0):=by have:=F5.out;rwa [show 1-y/D=0 by omega]at this
             have z1:=X5.lw.lv.qq.cell p;rw[zj,if_pos (by omega)]at z1;have z2:=X5.lw.lv.qq.frozen p;clear X5 F5
             go_wp2
             refine⟨?ex,?mea⟩
             case ex=>
              (repeat apply Exists.intro)
              refine⟨?rel,rfl⟩
              case rel=>exact⟨p,u5,upd q p gq,by omega,rfl,K5.out.putQ p gq,KI.out.step (by omega) HV0.out HVn.out F6.out⟩
             case mea=>simp[intOf];try omega
         have HK:Hid _:=hK;clear hK
         go_loopw [19,20] (fun g r w'=>∃(gn rn nn:Nat),g=B gn∧r=B rn∧w'=wr.drewN nn∧GI u v2 p k gn rn) (fun g _ _=>(intOf g).toNat)
         case atStart=>exact⟨g0,r0,_,rfl,rfl,rfl,G0.out⟩
         case round=>
          obtain⟨gn,rn,nn,rfl,rfl,rfl,hG⟩:=hrel;clear G0;have KG:Hid _:=hG;clear hG;by_cases hgD:D≤gn
          ·have hgb:((gn:Int)>4294967295):=by unfold D at hgD;omega
           go_wp2
           go_quiet (fail)
           go_wp2
           ·rename_i ht;obtain⟨d1,d2,d3⟩:=KG.out.dec hpk KI.out.hf HV0.out HWn.out (Or.inl hgD);rw[add_w KG.out.r (GV.out _ (by omega))]at ht;rw[dec_w d1 (KG.out.lt hpk KI.out.hf hv0)];exact CONT.out (gn-1) _ (GI.brk hpk KI.out.hf GV.out hv0 HWn.out d2 d3 (by unfold D;omega)) (KW.out.grown (xk (Below.refl _ _) _))
           ·rename_i ht;obtain⟨d1,d2,d3⟩:=KG.out.dec hpk KI.out.hf HV0.out HWn.out (Or.inl hgD);have eg:=dec_w d1 (KG.out.lt hpk KI.out.hf hv0);have er:=add_w KG.out.r (GV.out (k+1) (by omega));rw[er]at ht;refine⟨?ex,?mea⟩
            case ex=>
             (repeat apply Exists.intro)
             refine⟨?rel,rfl⟩
             case rel=>exact⟨gn-1,rn+v2 (k+1),_,congrArg _ eg,congrArg _ er,rfl,⟨d2,d3,by unfold D;omega⟩⟩
            case mea=>simp[intOf];first | omega | (rw[eg];omega)
          ·have hgb:decide ((4294967295:Int)<(gn:Int))=false:=by unfold D at hgD;rw[decide_eq_false];omega
           have hgl:gn<D:=by omega
           go_wp2
           go_quiet (fail)
           go_wp2
           ·rename_i h2 ht;rw[or_two KG.out.r (KI.out.hf (p+k) (by omega)),mul_w hgl (GV.out k (by omega))]at h2;obtain⟨d1,d2,d3⟩:=KG.out.dec hpk KI.out.hf HV0.out HWn.out (Or.inr (Int.ofNat_lt.1 h2));rw[add_w KG.out.r (GV.out _ (by omega))]at ht;rw[dec_w d1 (KG.out.lt hpk KI.out.hf hv0)];exact CONT.out (gn-1) _ (GI.brk hpk KI.out.hf GV.out hv0 HWn.out d2 d3 (by unfold D;omega)) (KW.out.grown (xk (Below.refl _ _) _))
           ·rename_i h2 ht;rw[or_two KG.out.r (KI.out.hf (p+k) (by omega)),mul_w hgl (GV.out k (by omega))]at h2;obtain⟨d1,d2,d3⟩:=KG.out.dec hpk KI.out.hf HV0.out HWn.out (Or.inr (Int.ofNat_lt.1 h2));have eg:=dec_w d1 (KG.out.lt hpk KI.out.hf hv0);have er:=add_w KG.out.r (GV.out (k+1) (by omega));rw[er]at ht;refine⟨?ex,?mea⟩
            case ex=>
             (repeat apply Exists.intro)
             refine⟨?rel,rfl⟩
             case rel=>exact⟨gn-1,rn+v2 (k+1),_,congrArg _ eg,congrArg _ er,rfl,⟨d2,d3,by unfold D;omega⟩⟩
            case mea=>simp[intOf];first | omega | (rw[eg];omega)
           ·rename_i h2;rw[or_two KG.out.r (KI.out.hf (p+k) (by omega)),mul_w hgl (GV.out k (by omega))]at h2;exact CONT.out gn _ (KG.out.fin GV.out hv0 hgl (Int.ofNat_le.1 h2)) (KW.out.grown (by first|exact xk (Below.refl _ _) _|exact xk (xk (Below.refl _ _) _) _))
      ·have x1:=hS.lw.lv.dd.cell (p+1);rw[zj,if_pos (by omega)]at x1;have x2:=hS.lw.lv.dd.cell p;rw[zj,if_pos (by omega)]at x2;have o1:=hS.uu.cell (p+1);rw[zj,if_pos (by omega)]at o1;clear hS
       go_wp2
       have y1:=cell_regrown x1;have y2:=cell_regrown x2;have v1:=cell_regrown o1;refine zh (by kernel_rfl) (by kernel_rfl) (by simp) ?_;simp only[List.dropLast]
       repeat(go_big_quiet_step (fail))
       refine wpQuiet_nil ?_;intro w' hw';obtain⟨⟨dq,osq⟩,rfl⟩:=hw';have hbq:=below_regrown wr dq osq;have G0:=KW.out.grown hbq;have c1:=G0.uu.cell (p+1);rw[zj,if_pos (by omega)]at c1;have c2:=G0.uu.frozen (p+1);have KG:Hid _:=G0;clear y1 y2 v1 G0 hbq x1 x2 o1;generalize grow (redrawn wr dq) osq=wg at *;refine yj rfl rfl ?_
       go_simp
       go_wp2
       refine⟨?ex,?mea⟩
       case ex=>
        (repeat apply Exists.intro)
        refine⟨?rel,rfl⟩
        case rel=>
         have gd:=GD.out.1;refine⟨p,upd u (p+1) ((d (p+1)*2^sn+d p*2^sn/D)%D),by omega,rfl,?_,fun i h1 h2=>?_⟩
         ·rw[num_shl (gd _ (by omega)) (gd _ (by omega)) hs32];exact KG.out.putU (p+1) _
         ·by_cases e:i=p+1
          ·subst e;rw[qo,dg_up gd (by omega) hs32]
          ·rw[yd _ _ _ e];exact KA.out i (by omega) h2
       case mea=>simp[intOf];try omega
    ·have x1:=hS.lv.mm.cell (p+1);rw[zj,if_pos (by omega)]at x1;have x2:=hS.lv.mm.cell p;rw[zj,if_pos (by omega)]at x2;have o1:=hS.vv.cell (p+1);rw[zj,if_pos (by omega)]at o1;clear hS
     go_wp2
     have y1:=cell_regrown x1;have y2:=cell_regrown x2;have v1:=cell_regrown o1;refine zh (by kernel_rfl) (by kernel_rfl) (by simp) ?_;simp only[List.dropLast]
     repeat(go_big_quiet_step (fail))
     refine wpQuiet_nil ?_;intro w' hw';obtain⟨⟨dq,osq⟩,rfl⟩:=hw';have hbq:=below_regrown wr dq osq;have G0:=KW.out.grown hbq;have c1:=G0.vv.cell (p+1);rw[zj,if_pos (by omega)]at c1;have c2:=G0.vv.frozen (p+1);have KG:Hid _:=G0;clear y1 y2 v1 G0 hbq x1 x2 o1;generalize grow (redrawn wr dq) osq=wg at *;refine yj rfl rfl ?_
     go_simp
     go_wp2
     go_roundw
     case rel=>
      have gm:=GD.out.2.1;refine⟨p,upd v (p+1) ((m (p+1)*2^sn+m p*2^sn/D)%D),by omega,rfl,?_,fun i h1 h2=>?_,fun i h1=>?_⟩
      ·rw[num_shl (gm _ (by omega)) (gm _ (by omega)) hs32];exact KG.out.putV (p+1) _
      ·by_cases e:i=p+1
       ·subst e;rw[qo,dg_up gm (by omega) hs32]
       ·rw[yd _ _ _ e];exact KA.out i (by omega) h2
      ·rw[yd _ _ _ (by omega)];exact KB.out i h1
     case measure=>simp[intOf];try omega
theorem top_there(f:Nat→Nat):∀ N:Nat,∃ n,n≤N∧(∀ i,n≤i→i<N→f i=0)∧(0<n→f (n-1)≠0)
 | 0=>⟨0,Nat.le_refl _,fun i _ h=>by omega,fun h=>by omega⟩
 | N+1=>by
  by_cases h:f N=0
  ·obtain⟨n,h1,h2,h3⟩:=top_there f N;refine⟨n,by omega,fun i hi hi2=>?_,h3⟩;by_cases e:i=N
   ·subst e;exact h
   ·exact h2 i hi (by omega)
  ·exact⟨N+1,Nat.le_refl _,fun i h1 h2=>by omega,fun _=>h⟩
theorem top_same{f:Nat→Nat}{n m:Nat}(hn:n≤8)(hm:m≤8)(h1:∀ i,n≤i→i<8→f i=0)(h2:0<n→f (n-1)≠0)(k1:∀ i,m≤i→i<8→f i=0)(k2:0<m→f (m-1)≠0):n=m:=by
 rcases Nat.lt_trichotomy n m with h|h|h
 ·exact absurd (h1 (m-1) (by omega) (by omega)) (k2 (by omega))
 ·exact h
 ·exact absurd (k1 (n-1) (by omega) (by omega)) (h2 (by omega))
theorem top_any(f:Nat→Nat)(n:Nat)(hn:n≤8)(h1:∀ i,n≤i→i<8→f i=0)(h2:0<n→f (n-1)≠0)(w:World) :
  Calls prog 220 #[A8 f] w fun e w'=>e=.returned (.int .i64 (n:Int))∧Below w.heap.size w w':=by
 refine(top_raw f w).mono ?_;rintro e w' ⟨⟨m,hm,k1,k2,rfl⟩,hb⟩;rw[top_same hn hm h1 h2 k1 k2];exact⟨rfl,hb⟩
theorem ag_cong{k:IntKind}{n:Nat}{f g:Nat→Nat}(h:∀ i,i<n→f i=g i):ag k n f=ag k n g:=by
 apply Array.ext_getElem?;intro i;rw[zj,zj];by_cases hi:i<n
 ·rw[if_pos hi,if_pos hi,h i hi]
 ·rw[if_neg hi,if_neg hi]
theorem LR.same{X V:Nat}{q o:Nat→Nat}(h:LR X V q o):Value.tuple #[A16 q,A8 o]=Value.tuple #[A16 (dg (X/V)),A8 (dg (rm X V))]:=by
 have e1:ag .u64 16 q=ag .u64 16 (dg (X/V)):=ag_cong fun i hi=>by rw[← h.vq,dg_vl h.hq hi]
 have e2:ag .u64 8 o=ag .u64 8 (dg (rm X V)):=ag_cong fun i hi=>by unfold rm;rw[← h.vo,dg_vl h.ho hi]
 unfold A16 A8;rw[e1,e2]
theorem long_any(d m:Nat→Nat)(hd:∀ i,i<16→d i<D)(hm:∀ i,i<8→m i<D)(w:World) :
  Calls prog 148 #[A16 d,A8 m] w fun e w'=>e=.returned (.tuple #[A16 (dg (vl d 0 16/vl m 0 8)),A8 (dg (rm (vl d 0 16) (vl m 0 8)))])∧Below w.heap.size w w':=by
 obtain⟨n,hn,h1,h2⟩:=top_there m 8;have ct:=fun w=>top_any m n hn h1 h2 w
 rcases n with _|_|k
 ·have e:vl m 0 8=0:=x8 fun i hi=>by rw[Nat.zero_add];exact h1 i (Nat.zero_le _) hi
  rw[e];refine(long_zero d m (vl d 0 16) ct w).mono ?_;rintro e w' ⟨⟨q,o,hL,rfl⟩,hb⟩;exact⟨by rw[hL.same],hb⟩
 ·have e:vl m 0 8=m 0:=by rw[vl_cut (f:=m) (a:=1) (b:=8) (by omega) h1,vl_one]
  rw[e];refine(long_one d m (Nat.pos_of_ne_zero (h2 (by omega))) (hm 0 (by omega)) hd ct w).mono ?_;rintro e w' ⟨⟨q,o,hL,rfl⟩,hb⟩;exact⟨by rw[hL.same],hb⟩
 ·refine(long_main d m k (by omega) hd hm (Nat.pos_of_ne_zero (h2 (by omega))) h1 (fun w=>?_) w).mono ?_
  ·have h:=ct w;rw[show((k+1+1:Nat):Int)=(k:Int)+2 by omega]at h;exact h
  ·rintro e w' ⟨⟨q,o,hL,rfl⟩,hb⟩;exact⟨by rw[hL.same],hb⟩
end Go.Proofs.YtceedgdbhlpjlaaGreatDoor
