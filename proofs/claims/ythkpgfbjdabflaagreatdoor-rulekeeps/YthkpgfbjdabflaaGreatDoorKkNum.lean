/- Laid one behind the other: Num, Dg, Wt, Ol, Ag, Rw, Rx. -/
import GoSem.Core.Value
import Derived.KernelRfl
import Derived.Test.YthkpgfbjdabflaaGreatDoorProg
import Derived.WalkKit
import Derived.BigRegion
import Derived.Deep.RegionHeld3
import Derived.Laws.Rows
import Derived.Laws.Tables
import Derived.Deep.WholeRow
import Derived.Deep.Draws
namespace Go.Proofs.YthkpgfbjdabflaaGreatDoor
open Go.RowKit Tryz
set_option linter.unusedVariables false
set_option maxRecDepth 100000
set_option maxHeartbeats 4000000
def M:Nat:=18446744073709551616
theorem M_eq:M=18446744073709551616:=rfl
def W:Nat:=115792089237316195423570985008687907853269984665640564039457584007913129639936
theorem W_eq:W=M*M*M*M:=by decide +kernel
def l0 (n:Nat):Nat:=n%M
def l1 (n:Nat):Nat:=n/M%M
def l2 (n:Nat):Nat:=n/(M*M)%M
def l3 (n:Nat):Nat:=n/(M*M*M)%M
theorem yz(n:Nat):l0 n<M:=Nat.mod_lt _ (by decide)
theorem yh(n:Nat):l1 n<M:=Nat.mod_lt _ (by decide)
theorem yn(n:Nat):l2 n<M:=Nat.mod_lt _ (by decide)
theorem yu(n:Nat):l3 n<M:=Nat.mod_lt _ (by decide)
def mk (a b c d:Nat):Nat:=a+M*(b+M*(c+M*d))
theorem l0_mk(a b c d:Nat)(ha:a<M):l0 (mk a b c d)=a:=by
 unfold l0 mk;rw[Nat.add_mul_mod_self_left,Nat.mod_eq_of_lt ha]
theorem mk_div(a x:Nat)(ha:a<M):(a+M*x)/M=x:=by
 rw[Nat.add_mul_div_left _ _ (by decide),Nat.div_eq_of_lt ha,Nat.zero_add]
theorem l1_mk(a b c d:Nat)(ha:a<M)(hb:b<M):l1 (mk a b c d)=b:=by
 unfold l1 mk;rw[mk_div _ _ ha,Nat.add_mul_mod_self_left,Nat.mod_eq_of_lt hb]
theorem l2_mk(a b c d:Nat)(ha:a<M)(hb:b<M)(hc:c<M):l2 (mk a b c d)=c:=by
 unfold l2 mk;rw[← Nat.div_div_eq_div_mul,mk_div _ _ ha,mk_div _ _ hb,Nat.add_mul_mod_self_left,Nat.mod_eq_of_lt hc]
theorem l3_mk(a b c d:Nat)(ha:a<M)(hb:b<M)(hc:c<M)(hd:d<M):l3 (mk a b c d)=d:=by
 unfold l3 mk;rw[← Nat.div_div_eq_div_mul,← Nat.div_div_eq_div_mul,mk_div _ _ ha,mk_div _ _ hb,mk_div _ _ hc,Nat.mod_eq_of_lt hd]
theorem mk_lt(a b c d:Nat)(ha:a<M)(hb:b<M)(hc:c<M)(hd:d<M):mk a b c d<W:=by
 unfold mk;rw[W_eq];unfold M at *;omega
theorem xx(n:Nat)(h:n<W):mk (l0 n) (l1 n) (l2 n) (l3 n)=n:=by
 rw[W_eq]at h;unfold mk l0 l1 l2 l3 M at *;omega
def sm (x y c:Nat):Nat:=(x+y+c)%M
def cy (x y c:Nat):Nat:=if x+y+c<M then 0 else 1
theorem cy_le(x y c:Nat):cy x y c≤1:=by unfold cy;split<;>omega
theorem sm_lt(x y c:Nat):sm x y c<M:=Nat.mod_lt _ (by decide)
theorem cy_eq(x y c:Nat)(hx:x<M)(hy:y<M)(hc:c≤1):(x+y+c)/M=cy x y c:=by
 unfold cy M at *;split<;>omega
theorem sm_cy(x y c:Nat)(hx:x<M)(hy:y<M)(hc:c≤1):sm x y c+M*cy x y c=x+y+c:=by
 unfold sm cy M at *;split<;>omega
def df (x y c:Nat):Nat:=(x+M-y-c)%M
def bo (x y c:Nat):Nat:=if x<y+c then 1 else 0
theorem bo_le(x y c:Nat):bo x y c≤1:=by unfold bo;split<;>omega
theorem df_lt(x y c:Nat):df x y c<M:=Nat.mod_lt _ (by decide)
theorem df_bo(x y c:Nat)(hx:x<M)(hy:y<M)(hc:c≤1):df x y c+y+c=x+M*bo x y c:=by
 unfold df bo M at *;split<;>omega
abbrev RT (f:Nat) (x:Array Value) (v:Value):Prop:=∀ w:World,Calls Tryz.prog f x w fun e w'=>e=.returned v∧Below w.heap.size w w'
def D:Nat:=4294967296
theorem zat:0<D:=by decide
theorem DD:D*D=M:=by decide
theorem W_D:W=D^8:=by decide +kernel
theorem Dp(n:Nat):0<D^n:=Nat.pow_pos zat
theorem D_two(n:Nat):D^n=2^(32*n):=by rw[show D=2^32 from rfl,← Nat.pow_mul]
def vl (f:Nat→Nat) (k:Nat):Nat→Nat
 | 0=>0
 | n+1=>vl f k n+f (k+n)*D^n
theorem zci{f g:Nat→Nat}{k:Nat}:∀{n:Nat},(∀ i,i<n→f (k+i)=g (k+i))→vl f k n=vl g k n
 | 0,_=>rfl
 | n+1,h=>by
  rw[vl,vl,zci (n:=n) (fun i hi=>h i (by omega)),h n (by omega)]
theorem vl_lt{f:Nat→Nat}{k:Nat}:∀{n:Nat},(∀ i,i<n→f (k+i)<D)→vl f k n<D^n
 | 0,_=>by simp[vl]
 | n+1,h=>by
  have h1:=vl_lt (n:=n) (fun i hi=>h i (by omega));have h2:=h n (by omega);rw[vl,Nat.pow_succ];have h3:f (k+n)*D^n≤(D-1)*D^n:=Nat.mul_le_mul_right _ (by omega);have h4:(D-1)*D^n+D^n=D^n*D:=by rw[Nat.mul_comm (D^n) D,← Nat.succ_mul];rfl
  omega
theorem zac(f:Nat→Nat)(k a:Nat):∀ b,vl f k (a+b)=vl f k a+D^a*vl f (k+a) b
 | 0=>by simp[vl]
 | b+1=>by
  rw[← Nat.add_assoc,vl,zac f k a b,vl,Nat.pow_add,Nat.mul_add,Nat.add_assoc,Nat.add_assoc]
  congr 2
  rw[Nat.mul_left_comm]
theorem vl_one(f:Nat→Nat)(k:Nat):vl f k 1=f k:=by simp[vl]
theorem vl_low(f:Nat→Nat)(k n:Nat):vl f k (n+1)=f k+D*vl f (k+1) n:=by
 rw[Nat.add_comm n 1,zac f k 1 n,vl_one,Nat.pow_one]
theorem vl_zero{f:Nat→Nat}{k:Nat}:∀{n:Nat},vl f k n=0→∀ i,i<n→f (k+i)=0
 | 0,_,i,hi=>by omega
 | n+1,h,i,hi=>by
  rw[vl]at h;have hp:=Dp n;have h1:vl f k n=0:=by omega
  have h2:f (k+n)*D^n=0:=by omega
  rcases Nat.lt_or_ge i n with hl|hl
  ·exact vl_zero h1 i hl
  ·have:i=n:=by omega
   subst this;rcases Nat.mul_eq_zero.1 h2 with h3|h3
   ·exact h3
   ·omega
theorem zaa{f:Nat→Nat}{k:Nat}:∀{n:Nat},(∀ i,i<n→f (k+i)=0)→vl f k n=0
 | 0,_=>rfl
 | n+1,h=>by rw[vl,zaa (n:=n) (fun i hi=>h i (by omega)),h n (by omega)];simp
def upd (f:Nat→Nat) (k x:Nat):Nat→Nat:=fun i=>if i=k then x else f i
theorem zbh(f:Nat→Nat)(k x:Nat):upd f k x k=x:=by simp[upd]
theorem yq(f:Nat→Nat)(k x:Nat){i:Nat}(h:i≠k):upd f k x i=f i:=by simp[upd,h]
theorem upd_lt{f:Nat→Nat}{k x n:Nat}(h:∀ i,i<n→f i<D)(hx:x<D):∀ i,i<n→upd f k x i<D:=by
 intro i hi;unfold upd;split
 ·exact hx
 ·exact h i hi
theorem vl_upd_below(f:Nat→Nat)(k x:Nat){j n:Nat}(h:j+n≤k):vl (upd f k x) j n=vl f j n:=
 zci fun i hi=>yq f k x (by omega)
theorem vl_upd_above(f:Nat→Nat)(k x:Nat){j n:Nat}(h:k<j):vl (upd f k x) j n=vl f j n:=
 zci fun i hi=>yq f k x (by omega)
theorem zag(f:Nat→Nat)(k i x:Nat):vl (upd f (k+i) x) k (i+1)=vl f k i+x*D^i:=by
 rw[vl,vl_upd_below f (k+i) x (Nat.le_refl _),zbh]
def dg (n i:Nat):Nat:=n/D^i%D
theorem dg_lt(n i:Nat):dg n i<D:=Nat.mod_lt _ zat
theorem vl_dg(x k:Nat):∀ n,vl (dg x) k n=x/D^k%D^n
 | 0=>by simp[vl,Nat.mod_one]
 | n+1=>by
  rw[vl,vl_dg x k n,Nat.pow_succ,Nat.mod_mul,dg,Nat.pow_add,Nat.div_div_eq_div_mul,Nat.mul_comm (D^n)]
theorem vl_dg0(x n:Nat):vl (dg x) 0 n=x%D^n:=by rw[vl_dg,Nat.pow_zero,Nat.div_one]
theorem zd6{x n:Nat}(h:x<D^n):vl (dg x) 0 n=x:=by rw[vl_dg0,Nat.mod_eq_of_lt h]
theorem vl_div{f:Nat→Nat}{k a b:Nat}(h:∀ i,i<a→f (k+i)<D):vl f k (a+b)/D^a=vl f (k+a) b:=by
 rw[zac,Nat.add_mul_div_left _ _ (Dp a),Nat.div_eq_of_lt (vl_lt h),Nat.zero_add]
theorem vl_mod{f:Nat→Nat}{k a b:Nat}(h:∀ i,i<a→f (k+i)<D):vl f k (a+b)%D^a=vl f k a:=by
 rw[zac,Nat.add_mul_mod_self_left,Nat.mod_eq_of_lt (vl_lt h)]
theorem dg_vl{f:Nat→Nat}{n i:Nat}(h:∀ i,i<n→f i<D)(hi:i<n):dg (vl f 0 n) i=f i:=by
 obtain⟨b,rfl⟩:∃ b,n=i+(b+1):=⟨n-i-1,by omega⟩
 rw[dg,vl_div (fun j hj=>by rw[Nat.zero_add];exact h j (by omega)),Nat.zero_add,vl_low,Nat.add_mul_mod_self_left,Nat.mod_eq_of_lt (h i hi)]
theorem take_step{f f0 g:Nat→Nat}{k i d c b b' x:Nat}(h:vl f k i+d*vl g 0 i=vl f0 k i+(c+b)*D^i)(hx:x+(c+d*g i)%D+b=f0 (k+i)+D*b') :
  vl (upd f (k+i) x) k (i+1)+d*vl g 0 (i+1)=vl f0 k (i+1)+((c+d*g i)/D+b')*D^(i+1):=by
 rw[zag,vl,vl,Nat.zero_add,Nat.pow_succ];have hm:=Nat.div_add_mod (c+d*g i) D;generalize (c+d*g i)/D=c',(c+d*g i)%D=r,D^i=P,vl f k i=A,vl f0 k i=A0,vl g 0 i=G,f0 (k+i)=y at *;generalize g i=z at *;have e1:A+x*P+d*(G+z*P)=(A+d*G)+(x+d*z)*P:=by grind
 rw[e1,h];have e2:(c+b)+(x+d*z)=y+(c'+b')*D:=by grind
 have e3:A0+(c+b)*P+(x+d*z)*P=A0+((c+b)+(x+d*z))*P:=by grind
 rw[e3,e2];grind
theorem take_end{f f0 g:Nat→Nat}{k n d c b t x:Nat}(h:vl f k n+d*vl g 0 n=vl f0 k n+(c+b)*D^n)(hx:x+(c+b)=f0 (k+n)+D*t) :
  vl (upd f (k+n) x) k (n+1)+d*vl g 0 n=vl f0 k (n+1)+t*D^(n+1):=by
 rw[zag,vl,Nat.pow_succ];generalize D^n=P,vl f k n=A,vl f0 k n=A0,vl g 0 n=G,f0 (k+n)=y at *;have e1:A+x*P+d*G=(A+d*G)+x*P:=by grind
 rw[e1,h];have e3:A0+(c+b)*P+x*P=A0+(x+(c+b))*P:=by grind
 rw[e3,hx];grind
theorem put_step{f f0 g:Nat→Nat}{k i c:Nat}(h:vl f k i+c*D^i=vl f0 k i+vl g 0 i) :
  vl (upd f (k+i) ((c+(f0 (k+i)+g i))%D)) k (i+1)+(c+(f0 (k+i)+g i))/D*D^(i+1)=vl f0 k (i+1)+vl g 0 (i+1):=by
 rw[zag,vl,vl,Nat.zero_add,Nat.pow_succ];have hm:=Nat.div_add_mod (c+(f0 (k+i)+g i)) D;generalize (c+(f0 (k+i)+g i))/D=c',(c+(f0 (k+i)+g i))%D=r,D^i=P at *;have e1:vl f k i+r*P+c'*(P*D)=vl f k i+(D*c'+r)*P:=by grind
 rw[e1,hm];have e2:vl f k i+(c+(f0 (k+i)+g i))*P=(vl f k i+c*P)+(f0 (k+i)+g i)*P:=by grind
 rw[e2,h];grind
theorem put_end{f f0 g:Nat→Nat}{k n c:Nat}(h:vl f k n+c*D^n=vl f0 k n+vl g 0 n) :
  vl (upd f (k+n) ((c+f0 (k+n))%D)) k (n+1)+(c+f0 (k+n))/D*D^(n+1)=vl f0 k (n+1)+vl g 0 n:=by
 rw[zag,vl,Nat.pow_succ];have hm:=Nat.div_add_mod (c+f0 (k+n)) D;generalize (c+f0 (k+n))/D=c',(c+f0 (k+n))%D=r,D^n=P at *;have e1:vl f k n+r*P+c'*(P*D)=vl f k n+(D*c'+r)*P:=by grind
 rw[e1,hm];have e2:vl f k n+(c+f0 (k+n))*P=(vl f k n+c*P)+f0 (k+n)*P:=by grind
 rw[e2,h];grind
theorem guess_ge{f g:Nat→Nat}{k n:Nat}(hf:∀ i,i<n+1→f (k+i)<D)(hn:0<n)(hg:0<g (n-1)) :
  vl f k (n+1)/vl g 0 n≤(f (k+n)*D+f (k+(n-1)))/g (n-1):=by
 obtain⟨m,rfl⟩:∃ m,n=m+1:=⟨n-1,by omega⟩
 rw[show m+1-1=m by omega]at *;rw[Nat.le_div_iff_mul_le hg];have hq:=Nat.div_mul_le_self (vl f k (m+1+1)) (vl g 0 (m+1));generalize vl f k (m+1+1)/vl g 0 (m+1)=q at *;have hR:vl f k (m+1+1)<(f (k+(m+1))*D+f (k+m)+1)*D^m:=by
  rw[vl,vl,Nat.pow_succ];have:=vl_lt (f:=f) (k:=k) (n:=m) (fun i hi=>hf i (by omega));generalize D^m=P at *;have e:(f (k+(m+1))*D+f (k+m)+1)*P=f (k+m)*P+f (k+(m+1))*(P*D)+P:=by grind
  rw[e];omega
 have hV:g m*D^m≤vl g 0 (m+1):=by rw[vl,Nat.zero_add];omega
 have h1:q*g m*D^m≤q*vl g 0 (m+1):=by rw[Nat.mul_assoc];exact Nat.mul_le_mul_left _ hV
 have h2:q*g m*D^m<(f (k+(m+1))*D+f (k+m)+1)*D^m:=by omega
 have:=Nat.lt_of_mul_lt_mul_right h2;omega
theorem quot_of{R V d r:Nat}(hV:0<V)(h:r+d*V=R)(hq:R/V≤d):d=R/V∧r=R%V:=by
 have hd:d≤R/V:=by rw[Nat.le_div_iff_mul_le hV];omega
 have e:d=R/V:=by omega
 refine⟨e,?_⟩;have:=Nat.div_add_mod R V;rw[← e,Nat.mul_comm]at this;omega
abbrev B (x:Nat):Value:=.int .u64 (x:Int)
abbrev U4 (a b c d:Nat):Value:=.agg #[B a,B b,B c,B d]
abbrev I4 (a b c d:Int):Value:=.agg #[.int .u64 a,.int .u64 b,.int .u64 c,.int .u64 d]
abbrev U (n:Nat):Value:=U4 (l0 n) (l1 n) (l2 n) (l3 n)
theorem of_raw(a:Nat):RT 48 #[B a] (I4 a 0 0 0):=by
 intro w
 go_enter func48,ntmps48
 go_wp2
 exact bodyPost_ret (v:=I4 a 0 0 0) (by simp[results,results48,go_sem]) rfl ⟨rfl,(by repeat(first|exact Below.refl _ _|apply Below.drew|refine Below.alloc ?_ (by simp;try omega) _))⟩
theorem add_raw(s c:Nat→Nat→Nat→Nat)(hc:∀ x y k:Nat,c x y k≤1)(hr:∀ x y k:Nat,x<M→y<M→k≤1→∀ w,(callFunc 57 #[.int .u64 x,.int .u64 y,.int .u64 k]).run prog w=.ok (.value (.tuple #[B (s x y k),B (c x y k)])) w)(hr0:∀ x y:Nat,x<M→y<M→∀ w,(callFunc 57 #[.int .u64 x,.int .u64 y,.int .u64 0]).run prog w=.ok (.value (.tuple #[B (s x y 0),B (c x y 0)])) w)(a0 a1 a2 a3 b0 b1 b2 b3:Nat)(g0:a0<M)(j0:b0<M)(g1:a1<M)(j1:b1<M)(g2:a2<M)(j2:b2<M)(g3:a3<M)(j3:b3<M):RT 91 #[U4 a0 a1 a2 a3,U4 b0 b1 b2 b3] (.tuple #[U4 (s a0 b0 0) (s a1 b1 (c a0 b0 0)) (s a2 b2 (c a1 b1 (c a0 b0 0))) (s a3 b3 (c a2 b2 (c a1 b1 (c a0 b0 0)))),.bool (((c a3 b3 (c a2 b2 (c a1 b1 (c a0 b0 0)))):Int) != 0)]):=by
 intro w
 go_enter func91,ntmps91
 go_wp2
 refine wp_loop_rounds 5 ?_
 iterate 4(rw[rounds_succ];go_wp2;go_region;go_wp2)
 rw[rounds_succ];go_wp2;exact bodyPost_ret (v:=.tuple #[U4 (s a0 b0 0) (s a1 b1 (c a0 b0 0)) (s a2 b2 (c a1 b1 (c a0 b0 0))) (s a3 b3 (c a2 b2 (c a1 b1 (c a0 b0 0)))),.bool (((c a3 b3 (c a2 b2 (c a1 b1 (c a0 b0 0)))):Int) != 0)]) (by simp[results,results91,go_sem]) rfl ⟨rfl,(by repeat(first|exact Below.refl _ _|apply Below.drew|refine Below.alloc ?_ (by simp;try omega) _))⟩
theorem radd_raw(s c:Nat→Nat→Nat→Nat)(hc:∀ x y k:Nat,c x y k≤1)(hr:∀ x y k:Nat,x<M→y<M→k≤1→∀ w,(callFunc 57 #[.int .u64 x,.int .u64 y,.int .u64 k]).run prog w=.ok (.value (.tuple #[B (s x y k),B (c x y k)])) w)(hr0:∀ x y:Nat,x<M→y<M→∀ w,(callFunc 57 #[.int .u64 x,.int .u64 y,.int .u64 0]).run prog w=.ok (.value (.tuple #[B (s x y 0),B (c x y 0)])) w)(a0 a1 a2 a3 b0 b1 b2 b3:Nat)(g0:a0<M)(j0:b0<M)(g1:a1<M)(j1:b1<M)(g2:a2<M)(j2:b2<M)(g3:a3<M)(j3:b3<M):RT 40 #[U4 a0 a1 a2 a3,U4 b0 b1 b2 b3] (.tuple #[U4 (s a0 b0 0) (s a1 b1 (c a0 b0 0)) (s a2 b2 (c a1 b1 (c a0 b0 0))) (s a3 b3 (c a2 b2 (c a1 b1 (c a0 b0 0)))),.bool (decide (0<(c a3 b3 (c a2 b2 (c a1 b1 (c a0 b0 0))))))]):=by
 intro w
 go_enter func40,ntmps40
 go_wp2
 refine wp_loop_rounds 5 ?_
 iterate 4(rw[rounds_succ];go_wp2;go_region;go_wp2)
 rw[rounds_succ];go_wp2;exact bodyPost_ret (v:=.tuple #[U4 (s a0 b0 0) (s a1 b1 (c a0 b0 0)) (s a2 b2 (c a1 b1 (c a0 b0 0))) (s a3 b3 (c a2 b2 (c a1 b1 (c a0 b0 0)))),.bool (decide (0<(c a3 b3 (c a2 b2 (c a1 b1 (c a0 b0 0))))))]) (by simp[results,results40,go_sem]) rfl ⟨rfl,(by repeat(first|exact Below.refl _ _|apply Below.drew|refine Below.alloc ?_ (by simp;try omega) _))⟩
theorem sub_raw(s c:Nat→Nat→Nat→Nat)(hc:∀ x y k:Nat,c x y k≤1)(hr:∀ x y k:Nat,k≤1→∀ w,(callFunc 218 #[.int .u64 x,.int .u64 y,.int .u64 k]).run prog w=.ok (.value (.tuple #[B (s x y k),B (c x y k)])) w)(hr0:∀ x y:Nat,∀ w,(callFunc 218 #[.int .u64 x,.int .u64 y,.int .u64 0]).run prog w=.ok (.value (.tuple #[B (s x y 0),B (c x y 0)])) w)(a0 a1 a2 a3 b0 b1 b2 b3:Nat):RT 246 #[U4 a0 a1 a2 a3,U4 b0 b1 b2 b3] (.tuple #[U4 (s a0 b0 0) (s a1 b1 (c a0 b0 0)) (s a2 b2 (c a1 b1 (c a0 b0 0))) (s a3 b3 (c a2 b2 (c a1 b1 (c a0 b0 0)))),.bool (((c a3 b3 (c a2 b2 (c a1 b1 (c a0 b0 0)))):Int) != 0)]):=by
 intro w
 go_enter func246,ntmps246
 go_wp2
 refine wp_loop_rounds 5 ?_
 iterate 4(rw[rounds_succ];go_wp2;go_region;go_wp2)
 rw[rounds_succ];go_wp2;exact bodyPost_ret (v:=.tuple #[U4 (s a0 b0 0) (s a1 b1 (c a0 b0 0)) (s a2 b2 (c a1 b1 (c a0 b0 0))) (s a3 b3 (c a2 b2 (c a1 b1 (c a0 b0 0)))),.bool (((c a3 b3 (c a2 b2 (c a1 b1 (c a0 b0 0)))):Int) != 0)]) (by simp[results,results246,go_sem]) rfl ⟨rfl,(by repeat(first|exact Below.refl _ _|apply Below.drew|refine Below.alloc ?_ (by simp;try omega) _))⟩
theorem and_raw(a0 a1 a2 a3 b0 b1 b2 b3:Nat):RT 268 #[U4 a0 a1 a2 a3,U4 b0 b1 b2 b3] (I4 (bits .and .u64 a0 b0) (bits .and .u64 a1 b1) (bits .and .u64 a2 b2) (bits .and .u64 a3 b3)):=by
 intro w
 go_enter func268,ntmps268
 go_wp2
 refine wp_loop_rounds 5 ?_
 iterate 4(rw[rounds_succ];go_wp2;go_region;go_wp2)
 rw[rounds_succ];go_wp2;exact bodyPost_ret (v:=I4 (bits .and .u64 a0 b0) (bits .and .u64 a1 b1) (bits .and .u64 a2 b2) (bits .and .u64 a3 b3)) (by simp[results,results268,go_sem]) rfl ⟨rfl,(by repeat(first|exact Below.refl _ _|apply Below.drew|refine Below.alloc ?_ (by simp;try omega) _))⟩
theorem or_raw(a0 a1 a2 a3 b0 b1 b2 b3:Nat):RT 269 #[U4 a0 a1 a2 a3,U4 b0 b1 b2 b3] (I4 (bits .or .u64 a0 b0) (bits .or .u64 a1 b1) (bits .or .u64 a2 b2) (bits .or .u64 a3 b3)):=by
 intro w
 go_enter func269,ntmps269
 go_wp2
 refine wp_loop_rounds 5 ?_
 iterate 4(rw[rounds_succ];go_wp2;go_region;go_wp2)
 rw[rounds_succ];go_wp2;exact bodyPost_ret (v:=I4 (bits .or .u64 a0 b0) (bits .or .u64 a1 b1) (bits .or .u64 a2 b2) (bits .or .u64 a3 b3)) (by simp[results,results269,go_sem]) rfl ⟨rfl,(by repeat(first|exact Below.refl _ _|apply Below.drew|refine Below.alloc ?_ (by simp;try omega) _))⟩
theorem xor_raw(a0 a1 a2 a3 b0 b1 b2 b3:Nat):RT 270 #[U4 a0 a1 a2 a3,U4 b0 b1 b2 b3] (I4 (bits .xor .u64 a0 b0) (bits .xor .u64 a1 b1) (bits .xor .u64 a2 b2) (bits .xor .u64 a3 b3)):=by
 intro w
 go_enter func270,ntmps270
 go_wp2
 refine wp_loop_rounds 5 ?_
 iterate 4(rw[rounds_succ];go_wp2;go_region;go_wp2)
 rw[rounds_succ];go_wp2;exact bodyPost_ret (v:=I4 (bits .xor .u64 a0 b0) (bits .xor .u64 a1 b1) (bits .xor .u64 a2 b2) (bits .xor .u64 a3 b3)) (by simp[results,results270,go_sem]) rfl ⟨rfl,(by repeat(first|exact Below.refl _ _|apply Below.drew|refine Below.alloc ?_ (by simp;try omega) _))⟩
theorem not_raw(a0 a1 a2 a3:Nat):RT 271 #[U4 a0 a1 a2 a3] (I4 (bits .xor .u64 IntKind.u64.max a0) (bits .xor .u64 IntKind.u64.max a1) (bits .xor .u64 IntKind.u64.max a2) (bits .xor .u64 IntKind.u64.max a3)):=by
 intro w
 go_enter func271,ntmps271
 go_wp2
 refine wp_loop_rounds 5 ?_
 iterate 4(rw[rounds_succ];go_wp2)
 rw[rounds_succ];go_wp2;exact bodyPost_ret (v:=I4 (bits .xor .u64 IntKind.u64.max a0) (bits .xor .u64 IntKind.u64.max a1) (bits .xor .u64 IntKind.u64.max a2) (bits .xor .u64 IntKind.u64.max a3)) (by simp[results,results271,go_sem]) rfl ⟨rfl,(by repeat(first|exact Below.refl _ _|apply Below.drew|refine Below.alloc ?_ (by simp;try omega) _))⟩
def Old (w0 w':World):Prop:=(∀ b o,b<w0.heap.size→w'.cell? ⟨b,o,none⟩=w0.cell? ⟨b,o,none⟩)∧Below w0.heap.size w0 w'
theorem old_of{w0 w':World}(h:Below w0.heap.size w0 w'):Old w0 w':=⟨fun b o hb=>h.cell (p:=⟨b,o,none⟩) hb,h⟩
theorem qo{w a b:World}(h:Below w.heap.size w a)(k:Below a.heap.size a b):Below w.heap.size w b:=h.trans (k.mono h.size)
theorem zj{w a:World}(h:Below w.heap.size w a)(o:Obj):Below w.heap.size w (a.alloc o):=h.alloc h.size o
def ag (k:IntKind) (n:Nat) (f:Nat→Nat):Array Value:=Array.ofFn (n:=n) fun i=>Value.int k ((f i.val:Nat):Int)
theorem yj(k:IntKind)(n:Nat)(f:Nat→Nat):(ag k n f).size=n:=by simp[ag]
theorem yd(k:IntKind)(n:Nat)(f:Nat→Nat)(i:Nat):(ag k n f)[i]? = if i<n then some (Value.int k ((f i:Nat):Int))else none:=by
 unfold ag;rw[Array.getElem?_ofFn];split<;>rfl
theorem xr(k:IntKind)(n:Nat)(f:Nat→Nat)(i x:Nat):(ag k n f).setIfInBounds i (Value.int k ((x:Nat):Int))=ag k n (upd f i x):=by
 apply Array.ext_getElem?;intro j;rw[yd,Array.getElem?_setIfInBounds,yd,yj];unfold upd;by_cases h:i=j
 ·subst h;by_cases h2:i<n<;>simp[h2]
 ·have h':¬ j=i:=fun e=>h e.symm
  simp[h,h']
theorem zbb(k:IntKind)(n:Nat){f g:Nat→Nat}(h:∀ i,i<n→f i=g i):ag k n f=ag k n g:=by
 unfold ag
 congr 1
 funext i;rw[h i.val i.isLt]
theorem ag_one(k:IntKind)(n:Nat)(f:Nat→Nat):(ag k n f).all (·.oneCell')=true:=by
 unfold ag;rw[Array.all_eq_true];intro i hi;simp[Value.oneCell']
section
variable {P:Program}
def RowAt (w:World) (n:Nat) (c:Array Value) (t:TypeId) (F:Array Value→World):Prop:=
 w.heap[n]? = some (.cells c t (0,0))∧∀ c',w.setRow n c'=F c'
theorem RowAt.last{w:World}{n:Nat}{c:Array Value}{t:TypeId}(h:n=w.heap.size):RowAt (w.alloc (.cells c t)) n c t (fun c'=>w.alloc (.cells c' t)):=by
 subst h;exact⟨heap_alloc_last w _,fun c'=>World.setRow_alloc_new w c c' t⟩
theorem RowAt.old{w:World}{n:Nat}{c:Array Value}{t:TypeId}{F:Array Value→World}{o:Obj}(h:RowAt w n c t F):RowAt (w.alloc o) n c t (fun c'=>(F c').alloc o):=by
 obtain⟨h1,h2⟩:=h;have hlt:n<w.heap.size:=(Array.getElem?_eq_some_iff.1 h1).1;refine⟨by rw[heap_alloc_old w o hlt];exact h1,fun c'=>?_⟩;show(w.alloc o).setRow n c'=(F c').alloc o;rw[← h2 c'];simp only[World.setRow,World.alloc]
 congr 1
 apply Array.ext_getElem?;intro i;rw[Array.getElem?_modify,Array.getElem?_push,Array.getElem?_push,Array.size_modify,Array.getElem?_modify];by_cases hi:i=w.heap.size
 ·have hn:¬ n=i:=by omega
  simp[hi];intro hh;omega
 ·simp[hi]
theorem RowAt.of{w:World}{n:Nat}{c:Array Value}{t:TypeId}(h:w.heap[n]? = some (.cells c t (0,0))):RowAt w n c t (fun c'=>w.setRow n c'):=⟨h,fun _=>rfl⟩
def zb (w:World) (g:Nat) (c:Array Value):Prop:=∃ t,w.heap[g]? = some (.cells c t (0,0))
theorem zb.last{w:World}{n:Nat}{c:Array Value}{t:TypeId}(h:n=w.heap.size):zb (w.alloc (.cells c t)) n c:=⟨t,by subst h;exact heap_alloc_last w _⟩
theorem zb.old{w:World}{n:Nat}{c:Array Value}{o:Obj}(h:zb w n c):zb (w.alloc o) n c:=by
 obtain⟨t,h⟩:=h;have hlt:n<w.heap.size:=(Array.getElem?_eq_some_iff.1 h).1;exact⟨t,by rw[heap_alloc_old w o hlt];exact h⟩
def yg (w:World) (g m:Nat) (c':Array Value) (W':World):Prop:=∃ old t,w.heap[g]? = some (.cells old t (0,0))∧old.size=m∧w.setRow g c'=W'
theorem yg.last{w:World}{n m:Nat}{c c':Array Value}{t:TypeId}(h:n=w.heap.size)(hm:c.size=m):yg (w.alloc (.cells c t)) n m c' (w.alloc (.cells c' t)):=
 ⟨c,t,by subst h;exact heap_alloc_last w _,hm,by subst h;exact World.setRow_alloc_new w c c' t⟩
theorem yg.old{w W':World}{n m:Nat}{c':Array Value}{o:Obj}(h:yg w n m c' W'):yg (w.alloc o) n m c' (W'.alloc o):=by
 obtain⟨old,t,h1,h2,h3⟩:=h;obtain⟨k1,k2⟩:=RowAt.old (o:=o) (RowAt.of h1);exact⟨old,t,k1,h2,by rw[k2 c',← h3]⟩
theorem qj{ops:Array Oper}{rest:List Oper}{o:Oper}{a:Act}{w:World}{Q:Exit→Act→World→Prop}(hgd:o.guard=none)(ty:TypeId)(x:Operand)(ho:o.op=.load ty x)(g:Nat)(hx:a.eval x=.pointer (some ⟨g,0,none⟩))(k:IntKind)(n:Nat)(f:Nat→Nat){e:TypeId}(hr:zb w g (ag k n f))(hu:P.underlying ty=some (.array n e))(hi:(P.info? ty).map (·.size)=some n)(h:wpList P ops Q rest (a.put o.dst (.agg (ag k n f))) w):wpList P ops Q (o::rest) a w:=by
 obtain⟨t,hr⟩:=hr;exact wpList_load_row hgd ty x ho g hx t (ag k n f) (0,0) _ hr hu rfl (by rw[yj];exact hi) h
structure IsRow (c:Array Value) (k:IntKind) (n:Nat) (f:Nat→Nat):Prop where
 eq:c=ag k n f
theorem IsRow.size{c:Array Value}{k:IntKind}{n:Nat}{f:Nat→Nat}(h:IsRow c k n f):c.size=n:=by rw[h.eq];exact yj k n f
theorem y6{ops:Array Oper}{rest:List Oper}{o:Oper}{a:Act}{w:World}{Q:Exit→Act→World→Prop}(hgd:o.guard=none)(ty:TypeId)(x:Operand)(ho:o.op=.load ty x)(g:Nat)(hx:a.eval x=.pointer (some ⟨g,0,none⟩))(k:IntKind)(n:Nat)(f:Nat→Nat){e:TypeId}(hr:zb w g (ag k n f))(hu:P.underlying ty=some (.array n e))(hi:(P.info? ty).map (·.size)=some n)(h:∀ c,IsRow c k n f→wpList P ops Q rest (a.put o.dst (.agg c)) w):wpList P ops Q (o::rest) a w:=
 qj hgd ty x ho g hx k n f hr hu hi (h _ ⟨rfl⟩)
theorem zbz{w W':World}{g n:Nat}{k:IntKind}{f:Nat→Nat}(ty:TypeId)(hi:(P.info? ty).map (·.size)=some n)(h:yg w g n (ag k n f) W') :
  (storeCells ⟨g,0,none⟩ (ag k n f).toList 0).run P w=.ok () W':=by
 obtain⟨old,t,h1,h2,h3⟩:=h;have hz:(ag k n f).size=n:=yj k n f;have:=run_storeVar_row (P:=P) w g t ty old (ag k n f) h1 (by rw[hz];exact hi) (by rw[hz];exact h2) (ag_one k n f);rw[h3]at this;cases hq:P.info? ty with
 | none=>simp[hq]at hi
 | some i=>
  have hs:(ag k n f).size=i.size:=by simp[hq]at hi;omega
  simpa [storeVar,sizeOf,typeInfo,hq,Value.cells,hs]using this
theorem zu{w W':World}{g n:Nat}{k:IntKind}{f:Nat→Nat}{c:Array Value}(hv:IsRow c k n f)(ty:TypeId)(hi:(P.info? ty).map (·.size)=some n)(h:yg w g n (ag k n f) W') :
  (storeCells ⟨g,0,none⟩ c.toList 0).run P w=.ok () W':=by
 rw[hv.eq];exact zbz ty hi h
theorem zdn{w:World}{g n:Nat}{k:IntKind}{f:Nat→Nat}(ty:TypeId){e:TypeId}(hu:P.underlying ty=some (.array n e))(hi:(P.info? ty).map (·.size)=some n)(h:zb w g (ag k n f)) :
  (loadVar ty ⟨g,0,none⟩).run P w=.ok (.agg (ag k n f)) w:=by
 obtain⟨t,h⟩:=h;exact run_loadVar_row w g t ty (ag k n f) (0,0) _ h hu rfl (by rw[yj];exact hi)
theorem zb.drewN{w:World}{n:Nat}{c:Array Value}(h:zb w n c)(q:Nat):zb (w.drewN q) n c:=h
theorem yg.drewN{w W':World}{n m:Nat}{c':Array Value}(h:yg w n m c' W')(q:Nat):yg (w.drewN q) n m c' (W'.drewN q):=by
 obtain⟨old,t,h1,h2,h3⟩:=h;exact⟨old,t,h1,h2,by rw[← h3];rfl⟩
theorem yy(w:World)(n:Nat)(a:Addr)(v:Value):(w.drewN n).setCell a v=(w.setCell a v).drewN n:=by
 unfold World.drewN World.setCell;split<;>rfl
theorem zb7{B:Nat}{a w:World}(h:Below B a w)(n:Nat):Below B a (w.drewN n):=⟨h.os,h.tape,h.output,h.size,h.block⟩
end
section
variable {P:Program}
theorem xz{c:Code}{Q:Exit→Act→World→Prop}{a:Act}(w:World)(h:∀ w',w'=w→c.wp P Q a w'):c.wp P Q a w:=h w rfl
theorem zb.lt{w:World}{g:Nat}{c:Array Value}(h:zb w g c):g<w.heap.size:=by
 obtain⟨t,h⟩:=h;exact(Array.getElem?_eq_some_iff.1 h).1
theorem zb.below{w w':World}{g:Nat}{c:Array Value}(h:zb w g c)(hb:Below w.heap.size w w'):zb w' g c:=by
 have hlt:=h.lt;obtain⟨t,h⟩:=h;exact⟨t,by rw[hb.block g hlt];exact h⟩
theorem zb.cell{w:World}{g:Nat}{c:Array Value}(h:zb w g c)(i:Nat):w.cell? ⟨g,i,none⟩=c[i]? :=by
 obtain⟨t,h⟩:=h;exact cell_of_row w g i c t (0,0) h
theorem zap(w:World)(g:Nat)(c:Array Value):(w.setRow g c).heap.size=w.heap.size:=by simp[World.setRow]
theorem zb.set_same{w:World}{g:Nat}{c:Array Value}(h:zb w g c)(c':Array Value):zb (w.setRow g c') g c':=by
 obtain⟨t,h⟩:=h;refine⟨t,?_⟩;simp only[World.setRow,Array.getElem?_modify,h];simp
theorem zb.set_other{w:World}{g g':Nat}{c:Array Value}(h:zb w g c)(c':Array Value)(hne:g'≠g):zb (w.setRow g' c') g c:=by
 obtain⟨t,h⟩:=h;refine⟨t,?_⟩;simp only[World.setRow,Array.getElem?_modify,h];simp[hne]
theorem yg.row{w:World}{g m:Nat}{c c':Array Value}(h:zb w g c)(hm:c.size=m):yg w g m c' (w.setRow g c'):=by
 obtain⟨t,h⟩:=h;exact⟨c,t,h,hm,rfl⟩
theorem zf{B:Nat}{a w:World}(h:Below B a w){g:Nat}(hg:B≤g)(c:Array Value):Below B a (w.setRow g c):=
 ⟨h.os,h.tape,h.output,by rw[zap];exact h.size,fun b hb=>by
  rw[← h.block b hb];simp only[World.setRow,Array.getElem?_modify];have:¬ g=b:=by omega
  simp[this]⟩
theorem zb.setCell{w:World}{g:Nat}{c:Array Value}(h:zb w g c)(i:Nat)(v:Value):w.setCell ⟨g,i,none⟩ v=w.setRow g (c.setIfInBounds i v):=by
 obtain⟨t,h⟩:=h;unfold World.setCell World.setRow
 congr 1
 apply Array.ext_getElem?;intro j;simp only[Array.getElem?_modify];by_cases hj:g=j
 ·subst hj;simp[h]
 ·simp[hj]
end
end Go.Proofs.YthkpgfbjdabflaaGreatDoor
