import GoSem.Core.Value
import Derived.KernelRfl
import Derived.Laws.Bits64b
import Derived.Laws.Bits64
import Derived.Lib.BitFns
namespace Go.Proofs.YtfhppenjbmmadaaGreatDoor
set_option linter.unusedVariables false
set_option maxHeartbeats 8000000
section
def M:Nat:=18446744073709551616
theorem M_eq:M=18446744073709551616:=rfl
def W:Nat:=115792089237316195423570985008687907853269984665640564039457584007913129639936
theorem W_eq:W=M*M*M*M:=by decide +kernel
def l0 (n:Nat):Nat:=n%M
def l1 (n:Nat):Nat:=n/M%M
def l2 (n:Nat):Nat:=n/(M*M)%M
def l3 (n:Nat):Nat:=n/(M*M*M)%M
theorem l0_lt(n:Nat):l0 n<M:=Nat.mod_lt _ (by decide)
theorem l1_lt(n:Nat):l1 n<M:=Nat.mod_lt _ (by decide)
theorem l2_lt(n:Nat):l2 n<M:=Nat.mod_lt _ (by decide)
theorem l3_lt(n:Nat):l3 n<M:=Nat.mod_lt _ (by decide)
def mk (a b c d:Nat):Nat:=a+M*(b+M*(c+M*d))
theorem l0_mk(a b c d:Nat)(ha:a<M):l0 (mk a b c d)=a:=by
 unfold l0 mk;rw[Nat.add_mul_mod_self_left,Nat.mod_eq_of_lt ha]
theorem mk_div(a x:Nat)(ha:a<M):(a+M*x)/M=x:=by
 rw[Nat.add_mul_div_left _ _ (by decide),Nat.div_eq_of_lt ha,Nat.zero_add]
theorem l1_mk(a b c d:Nat)(ha:a<M)(hb:b<M):l1 (mk a b c d)=b:=by
 unfold l1 mk;rw[mk_div _ _ ha,Nat.add_mul_mod_self_left,Nat.mod_eq_of_lt hb]
theorem l2_mk(a b c d:Nat)(ha:a<M)(hb:b<M)(hc:c<M):l2 (mk a b c d)=c:=by
 unfold l2 mk;rw[← Nat.div_div_eq_div_mul,mk_div _ _ ha,mk_div _ _ hb,Nat.add_mul_mod_self_left,Nat.mod_eq_of_lt hc]
theorem l3_mk(a b c d:Nat)(ha:a<M)(hb:b<M)(hc:c<M)(hd:d<M):l3 (mk a b c d)=d:=by
 unfold l3 mk;rw[← Nat.div_div_eq_div_mul,← Nat.div_div_eq_div_mul,mk_div _ _ ha,mk_div _ _ hb,mk_div _ _ hc,Nat.mod_eq_of_lt hd]
theorem mk_lt(a b c d:Nat)(ha:a<M)(hb:b<M)(hc:c<M)(hd:d<M):mk a b c d<W:=by
 unfold mk;rw[W_eq];unfold M at *;omega
theorem mk_parts(n:Nat)(h:n<W):mk (l0 n) (l1 n) (l2 n) (l3 n)=n:=by
 rw[W_eq] at h
 unfold mk l0 l1 l2 l3 M at *
 omega
def sm (x y c:Nat):Nat:=(x+y+c)%M
def cy (x y c:Nat):Nat:=if x+y+c<M then 0 else 1
theorem cy_le(x y c:Nat):cy x y c≤1:=by unfold cy;split<;>omega
theorem sm_lt(x y c:Nat):sm x y c<M:=Nat.mod_lt _ (by decide)
theorem cy_eq(x y c:Nat)(hx:x<M)(hy:y<M)(hc:c≤1):(x+y+c)/M=cy x y c:=by
 unfold cy M at *;split<;>omega
theorem sm_cy(x y c:Nat)(hx:x<M)(hy:y<M)(hc:c≤1):sm x y c+M*cy x y c=x+y+c:=by
 unfold sm cy M at *;split<;>omega
def df (x y c:Nat):Nat:=(x+M-y-c)%M
def bo (x y c:Nat):Nat:=if x<y+c then 1 else 0
theorem bo_le(x y c:Nat):bo x y c≤1:=by unfold bo;split<;>omega
theorem df_lt(x y c:Nat):df x y c<M:=Nat.mod_lt _ (by decide)
theorem df_bo(x y c:Nat)(hx:x<M)(hy:y<M)(hc:c≤1):df x y c+y+c=x+M*bo x y c:=by
 unfold df bo M at *;split<;>omega
end
section
theorem of_mk(n a b c d:Nat)(h:n=mk a b c d)(ha:a<M)(hb:b<M)(hc:c<M)(hd:d<M):l0 n=a∧l1 n=b∧l2 n=c∧l3 n=d:=by
 subst h;exact ⟨l0_mk _ _ _ _ ha,l1_mk _ _ _ _ ha hb,l2_mk _ _ _ _ ha hb hc,l3_mk _ _ _ _ ha hb hc hd⟩
theorem add_parts(n m:Nat)(hn:n<W)(hm:m<W) :
  (l0 ((n+m)%W)=sm (l0 n) (l0 m) 0∧l1 ((n+m)%W)=sm (l1 n) (l1 m) (cy (l0 n) (l0 m) 0) ∧
  l2 ((n+m)%W)=sm (l2 n) (l2 m) (cy (l1 n) (l1 m) (cy (l0 n) (l0 m) 0)) ∧
  l3 ((n+m)%W)=sm (l3 n) (l3 m) (cy (l2 n) (l2 m) (cy (l1 n) (l1 m) (cy (l0 n) (l0 m) 0)))) ∧
  ((0<cy (l3 n) (l3 m) (cy (l2 n) (l2 m) (cy (l1 n) (l1 m) (cy (l0 n) (l0 m) 0))))↔W≤n+m):=by
 have a0:=l0_lt n;have a1:=l1_lt n;have a2:=l2_lt n;have a3:=l3_lt n
 have b0:=l0_lt m;have b1:=l1_lt m;have b2:=l2_lt m;have b3:=l3_lt m
 have en:=mk_parts n hn
 have em:=mk_parts m hm
 generalize l0 n=x0 at *;generalize l1 n=x1 at *;generalize l2 n=x2 at *;generalize l3 n=x3 at *
 generalize l0 m=y0 at *;generalize l1 m=y1 at *;generalize l2 m=y2 at *;generalize l3 m=y3 at *
 have e0:=sm_cy x0 y0 0 a0 b0 (by omega)
 have c0:=cy_le x0 y0 0
 have s0:=sm_lt x0 y0 0
 generalize cy x0 y0 0=k0 at *;generalize sm x0 y0 0=t0 at *
 have e1:=sm_cy x1 y1 k0 a1 b1 c0
 have c1:=cy_le x1 y1 k0
 have s1:=sm_lt x1 y1 k0
 generalize cy x1 y1 k0=k1 at *;generalize sm x1 y1 k0=t1 at *
 have e2:=sm_cy x2 y2 k1 a2 b2 c1
 have c2:=cy_le x2 y2 k1
 have s2:=sm_lt x2 y2 k1
 generalize cy x2 y2 k1=k2 at *;generalize sm x2 y2 k1=t2 at *
 have e3:=sm_cy x3 y3 k2 a3 b3 c2
 have c3:=cy_le x3 y3 k2
 have s3:=sm_lt x3 y3 k2
 generalize cy x3 y3 k2=k3 at *;generalize sm x3 y3 k2=t3 at *
 have hlt:=mk_lt t0 t1 t2 t3 s0 s1 s2 s3
 have key:n+m=mk t0 t1 t2 t3+W*k3:=by
  rw[← en,← em,W_eq];unfold mk M at *;omega
 refine ⟨of_mk _ t0 t1 t2 t3 ?_ s0 s1 s2 s3,?_⟩
 ·rw[key,Nat.add_mul_mod_self_left,Nat.mod_eq_of_lt hlt]
 ·rw[key]
  have hW:0<W:=by decide
  constructor
  ·intro h
   have:k3=1:=by omega
   subst this;omega
  ·intro h
   rcases Nat.eq_zero_or_pos k3 with h0 | h0
   ·subst h0;omega
   ·exact h0
theorem sub_parts(n m:Nat)(hn:n<W)(hm:m<W) :
  (l0 ((n+W-m)%W)=df (l0 n) (l0 m) 0∧l1 ((n+W-m)%W)=df (l1 n) (l1 m) (bo (l0 n) (l0 m) 0) ∧
  l2 ((n+W-m)%W)=df (l2 n) (l2 m) (bo (l1 n) (l1 m) (bo (l0 n) (l0 m) 0)) ∧
  l3 ((n+W-m)%W)=df (l3 n) (l3 m) (bo (l2 n) (l2 m) (bo (l1 n) (l1 m) (bo (l0 n) (l0 m) 0)))) ∧
  ((0<bo (l3 n) (l3 m) (bo (l2 n) (l2 m) (bo (l1 n) (l1 m) (bo (l0 n) (l0 m) 0))))↔n<m):=by
 have a0:=l0_lt n;have a1:=l1_lt n;have a2:=l2_lt n;have a3:=l3_lt n
 have b0:=l0_lt m;have b1:=l1_lt m;have b2:=l2_lt m;have b3:=l3_lt m
 have en:=mk_parts n hn
 have em:=mk_parts m hm
 generalize l0 n=x0 at *;generalize l1 n=x1 at *;generalize l2 n=x2 at *;generalize l3 n=x3 at *
 generalize l0 m=y0 at *;generalize l1 m=y1 at *;generalize l2 m=y2 at *;generalize l3 m=y3 at *
 have e0:=df_bo x0 y0 0 a0 b0 (by omega)
 have c0:=bo_le x0 y0 0
 have s0:=df_lt x0 y0 0
 generalize bo x0 y0 0=k0 at *;generalize df x0 y0 0=t0 at *
 have e1:=df_bo x1 y1 k0 a1 b1 c0
 have c1:=bo_le x1 y1 k0
 have s1:=df_lt x1 y1 k0
 generalize bo x1 y1 k0=k1 at *;generalize df x1 y1 k0=t1 at *
 have e2:=df_bo x2 y2 k1 a2 b2 c1
 have c2:=bo_le x2 y2 k1
 have s2:=df_lt x2 y2 k1
 generalize bo x2 y2 k1=k2 at *;generalize df x2 y2 k1=t2 at *
 have e3:=df_bo x3 y3 k2 a3 b3 c2
 have c3:=bo_le x3 y3 k2
 have s3:=df_lt x3 y3 k2
 generalize bo x3 y3 k2=k3 at *;generalize df x3 y3 k2=t3 at *
 have hlt:=mk_lt t0 t1 t2 t3 s0 s1 s2 s3
 have key:mk t0 t1 t2 t3+m=n+W*k3:=by
  rw[← en,← em,W_eq];unfold mk M at *;omega
 have hk:k3=0∨k3=1:=by omega
 refine ⟨of_mk _ t0 t1 t2 t3 ?_ s0 s1 s2 s3,?_⟩
 ·rcases hk with h | h
  ·subst h
   rw[show n+W-m=mk t0 t1 t2 t3+W by omega,Nat.add_mod_right,Nat.mod_eq_of_lt hlt]
  ·subst h
   rw[show n+W-m=mk t0 t1 t2 t3 by omega,Nat.mod_eq_of_lt hlt]
 ·rcases hk with h | h<;>subst h<;>constructor<;>intro<;>omega
def cmpN (n m:Nat):Int:=if n<m then -1 else if m<n then 1 else 0
theorem M_pow:M=2^64:=by decide
theorem MM_pow:M*M=2^128:=by decide
theorem MMM_pow:M*M*M=2^192:=by decide
theorem W_pow:W=2^256:=by decide +kernel
theorem or_parts(n m:Nat):l0 (n ||| m)=l0 n ||| l0 m∧l1 (n ||| m)=l1 n ||| l1 m∧l2 (n ||| m)=l2 n ||| l2 m∧l3 (n ||| m)=l3 n ||| l3 m:=by
 unfold l0 l1 l2 l3;rw[MMM_pow,MM_pow,M_pow];simp only[Nat.or_div_two_pow,Nat.or_mod_two_pow,and_self]
theorem bits_and(a b:Nat)(ha:a<M)(hb:b<M):bits .and .u64 (a:Int) (b:Int)=((a &&& b:Nat):Int):=bits_and_u64_nat a b ha hb
theorem bits_or(a b:Nat)(ha:a<M)(hb:b<M):bits .or .u64 (a:Int) (b:Int)=((a ||| b:Nat):Int):=bits_or_u64_nat a b ha hb
theorem bits_xor(a b:Nat)(ha:a<M)(hb:b<M):bits .xor .u64 (a:Int) (b:Int)=((a ^^^ b:Nat):Int):=bits_xor_u64_nat a b ha hb
end
section
theorem two_split(r:Nat)(hr:r<64):2^r*2^(64-r)=M:=by
 rw[← Nat.pow_add,show r+(64-r)=64 by omega];decide
theorem lo_eq(x r:Nat)(hr:r<64):x*2^r%M=2^r*(x%2^(64-r)):=by
 rw[← two_split r hr,Nat.mul_comm x,Nat.mul_mod_mul_left]
theorem hi_lt(y r:Nat)(hy:y<M)(hr:r<64):y/2^(64-r)<2^r:=by
 refine Nat.div_lt_of_lt_mul ?_
 rw[Nat.mul_comm,two_split r hr];exact hy
theorem hi_eq(x r:Nat)(hr:r<64):x*2^r/M=x/2^(64-r):=by
 rw[← two_split r hr,Nat.mul_comm x,Nat.mul_div_mul_left _ _ (Nat.two_pow_pos r)]
theorem wrap_mul(x r:Nat):IntKind.u64.wrap ((x:Int)*2^r)=((x*2^r%M:Nat):Int):=by
 rw[IntKind.wrap_u64];simp[M]
theorem div_pow(x r:Nat):(x:Int)/2^r=((x/2^r:Nat):Int):=by simp
theorem or_up(x y r:Nat)(hx:x<M)(hy:y<M)(hr:r<64) :
  bits .or .u64 (IntKind.u64.wrap ((x:Int)*2^r)) ((y:Int)/2^(64-r))=((x*2^r%M+y/2^(64-r):Nat):Int)∧x*2^r%M+y/2^(64-r)<M:=by
 have h1:x*2^r%M<M:=Nat.mod_lt _ (by decide)
 have h2:y/2^(64-r)<M:=Nat.lt_of_le_of_lt (Nat.div_le_self _ _) hy
 have e:x*2^r%M+y/2^(64-r)=x*2^r%M ||| y/2^(64-r):=by
  rw[lo_eq x r hr,Nat.two_pow_add_eq_or_of_lt (hi_lt y r hy hr)]
 refine ⟨by rw[wrap_mul,div_pow,bits_or _ _ h1 h2,e],?_⟩
 rw[e];exact Nat.or_lt_two_pow (n:=64) h1 h2
theorem or_down(x y r:Nat)(hx:x<M)(hy:y<M)(hr:r<64) :
  bits .or .u64 ((x:Int)/2^r) (IntKind.u64.wrap ((y:Int)*2^(64-r)))=((x/2^r+2^(64-r)*(y%2^r):Nat):Int)∧x/2^r+2^(64-r)*(y%2^r)<M:=by
 have e0:y*2^(64-r)%M=2^(64-r)*(y%2^r):=by
  rw[← two_split r hr,Nat.mul_comm (2^r),Nat.mul_comm y,Nat.mul_mod_mul_left]
 have h1:y*2^(64-r)%M<M:=Nat.mod_lt _ (by decide)
 have h2:x/2^r<M:=Nat.lt_of_le_of_lt (Nat.div_le_self _ _) hx
 have h3:x/2^r<2^(64-r):=Nat.div_lt_of_lt_mul (by rw[two_split r hr];exact hx)
 have e:x/2^r+2^(64-r)*(y%2^r)=x/2^r ||| y*2^(64-r)%M:=by
  rw[e0,Nat.add_comm,Nat.two_pow_add_eq_or_of_lt h3,Nat.or_comm]
 refine ⟨by rw[wrap_mul,div_pow,bits_or _ _ h2 h1,e],?_⟩
 rw[e];exact Nat.or_lt_two_pow (n:=64) h2 h1
theorem shl_key(n r:Nat)(hn:n<W)(hr:r<64) :
  n*2^r=mk (l0 n*2^r%M) (l1 n*2^r%M+l0 n/2^(64-r)) (l2 n*2^r%M+l1 n/2^(64-r)) (l3 n*2^r%M+l2 n/2^(64-r))+W*(l3 n/2^(64-r)):=by
 have en:=mk_parts n hn
 have d0:=Nat.div_add_mod (l0 n*2^r) M
 have d1:=Nat.div_add_mod (l1 n*2^r) M
 have d2:=Nat.div_add_mod (l2 n*2^r) M
 have d3:=Nat.div_add_mod (l3 n*2^r) M
 rw[hi_eq _ r hr] at d0 d1 d2 d3
 have ex:n*2^r=l0 n*2^r+M*(l1 n*2^r+M*(l2 n*2^r+M*(l3 n*2^r))):=by
  rw[← en,l0_mk _ _ _ _ (l0_lt n),l1_mk _ _ _ _ (l0_lt n) (l1_lt n),l2_mk _ _ _ _ (l0_lt n) (l1_lt n) (l2_lt n),l3_mk _ _ _ _ (l0_lt n) (l1_lt n) (l2_lt n) (l3_lt n)]
  unfold mk;grind
 rw[ex,W_eq]
 generalize l0 n*2^r=x0 at *;generalize l1 n*2^r=x1 at *;generalize l2 n*2^r=x2 at *;generalize l3 n*2^r=x3 at *
 generalize l0 n/2^(64-r)=y0 at *;generalize l1 n/2^(64-r)=y1 at *;generalize l2 n/2^(64-r)=y2 at *;generalize l3 n/2^(64-r)=y3 at *
 unfold mk M at *;omega
theorem shr_key(n r:Nat)(hn:n<W)(hr:r<64) :
  n/2^r=mk (l0 n/2^r+2^(64-r)*(l1 n%2^r)) (l1 n/2^r+2^(64-r)*(l2 n%2^r)) (l2 n/2^r+2^(64-r)*(l3 n%2^r)) (l3 n/2^r):=by
 have en:=mk_parts n hn
 have hs:=two_split r hr
 have hp:0<2^r:=Nat.two_pow_pos r
 have d0:=Nat.div_add_mod (l0 n) (2^r)
 have d1:=Nat.div_add_mod (l1 n) (2^r)
 have d2:=Nat.div_add_mod (l2 n) (2^r)
 have d3:=Nat.div_add_mod (l3 n) (2^r)
 have s0:=Nat.mod_lt (l0 n) hp
 generalize l0 n%2^r=z0 at *;generalize l1 n%2^r=z1 at *;generalize l2 n%2^r=z2 at *;generalize l3 n%2^r=z3 at *
 generalize l0 n/2^r=y0 at *;generalize l1 n/2^r=y1 at *;generalize l2 n/2^r=y2 at *;generalize l3 n/2^r=y3 at *
 have key:n=z0+2^r*mk (y0+2^(64-r)*z1) (y1+2^(64-r)*z2) (y2+2^(64-r)*z3) y3:=by
  rw[← en,← d0,← d1,← d2,← d3]
  unfold mk
  generalize 2^r=p at *;generalize 2^(64-r)=q at *
  rw[← hs];grind
 conv=>lhs;rw[key]
 rw[Nat.add_mul_div_left _ _ hp,Nat.div_eq_of_lt s0,Nat.zero_add]
theorem mk_up(a b c d h:Nat):(mk a b c d+W*h)*M=mk 0 a b c+W*(d+M*h):=by rw[W_eq];unfold mk;grind
theorem mk_mod(a b c d h:Nat)(ha:a<M)(hb:b<M)(hc:c<M)(hd:d<M):(mk a b c d+W*h)%W=mk a b c d:=by
 rw[Nat.add_mul_mod_self_left,Nat.mod_eq_of_lt (mk_lt a b c d ha hb hc hd)]
theorem mk_down(a b c d:Nat)(ha:a<M):mk a b c d/M=mk b c d 0:=by
 unfold mk;rw[mk_div _ _ ha];simp
end
end Go.Proofs.YtfhppenjbmmadaaGreatDoor
