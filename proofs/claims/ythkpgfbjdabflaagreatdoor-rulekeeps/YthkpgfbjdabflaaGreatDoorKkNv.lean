/- Laid one behind the other: Nv, Nx, Cm, Ca, Sh, Bi, Cs. -/
import Derived.Test.YthkpgfbjdabflaaGreatDoorKkNum
import Derived.Laws.Bits64b
import Derived.Laws.Bits64
import Derived.Test.YthkpgfbjdabflaaGreatDoorKkLn
namespace Go.Proofs.YthkpgfbjdabflaaGreatDoor
open Go.RowKit Tryz
set_option linter.unusedVariables false
set_option maxRecDepth 100000
set_option maxHeartbeats 4000000
theorem zbi(n a b c d:Nat)(h:n=mk a b c d)(ha:a<M)(hb:b<M)(hc:c<M)(hd:d<M):l0 n=a∧l1 n=b∧l2 n=c∧l3 n=d:=by
 subst h;exact⟨l0_mk _ _ _ _ ha,l1_mk _ _ _ _ ha hb,l2_mk _ _ _ _ ha hb hc,l3_mk _ _ _ _ ha hb hc hd⟩
theorem add_parts(n m:Nat)(hn:n<W)(hm:m<W) :
  (l0 ((n+m)%W)=sm (l0 n) (l0 m) 0∧l1 ((n+m)%W)=sm (l1 n) (l1 m) (cy (l0 n) (l0 m) 0) ∧
  l2 ((n+m)%W)=sm (l2 n) (l2 m) (cy (l1 n) (l1 m) (cy (l0 n) (l0 m) 0)) ∧
  l3 ((n+m)%W)=sm (l3 n) (l3 m) (cy (l2 n) (l2 m) (cy (l1 n) (l1 m) (cy (l0 n) (l0 m) 0)))) ∧
  ((0<cy (l3 n) (l3 m) (cy (l2 n) (l2 m) (cy (l1 n) (l1 m) (cy (l0 n) (l0 m) 0))))↔W≤n+m):=by
 have a0:=yz n;have a1:=yh n;have a2:=yn n;have a3:=yu n;have b0:=yz m;have b1:=yh m;have b2:=yn m;have b3:=yu m;have en:=xx n hn;have em:=xx m hm;generalize l0 n=x0 at *;generalize l1 n=x1 at *;generalize l2 n=x2 at *;generalize l3 n=x3,l0 m=y0 at *;generalize l1 m=y1 at *;generalize l2 m=y2 at *;generalize l3 m=y3 at *;have e0:=sm_cy x0 y0 0 a0 b0 (by omega);have c0:=cy_le x0 y0 0;have s0:=sm_lt x0 y0 0;generalize cy x0 y0 0=k0 at *;generalize sm x0 y0 0=t0 at *;have e1:=sm_cy x1 y1 k0 a1 b1 c0;have c1:=cy_le x1 y1 k0;have s1:=sm_lt x1 y1 k0
 generalize cy x1 y1 k0=k1 at *;generalize sm x1 y1 k0=t1 at *;have e2:=sm_cy x2 y2 k1 a2 b2 c1;have c2:=cy_le x2 y2 k1;have s2:=sm_lt x2 y2 k1;generalize cy x2 y2 k1=k2 at *;generalize sm x2 y2 k1=t2 at *;have e3:=sm_cy x3 y3 k2 a3 b3 c2;have c3:=cy_le x3 y3 k2;have s3:=sm_lt x3 y3 k2;generalize cy x3 y3 k2=k3 at *;generalize sm x3 y3 k2=t3 at *;have hlt:=mk_lt t0 t1 t2 t3 s0 s1 s2 s3;have key:n+m=mk t0 t1 t2 t3+W*k3:=by
  rw[← en,← em,W_eq];unfold mk M at *;omega
 refine⟨zbi _ t0 t1 t2 t3 ?_ s0 s1 s2 s3,?_⟩
 ·rw[key,Nat.add_mul_mod_self_left,Nat.mod_eq_of_lt hlt]
 ·rw[key];have hW:0<W:=by decide
  constructor
  ·intro h;have:k3=1:=by omega
   subst this;omega
  ·intro h;rcases Nat.eq_zero_or_pos k3 with h0|h0
   ·subst h0;omega
   ·exact h0
theorem sub_parts(n m:Nat)(hn:n<W)(hm:m<W) :
  (l0 ((n+W-m)%W)=df (l0 n) (l0 m) 0∧l1 ((n+W-m)%W)=df (l1 n) (l1 m) (bo (l0 n) (l0 m) 0) ∧
  l2 ((n+W-m)%W)=df (l2 n) (l2 m) (bo (l1 n) (l1 m) (bo (l0 n) (l0 m) 0)) ∧
  l3 ((n+W-m)%W)=df (l3 n) (l3 m) (bo (l2 n) (l2 m) (bo (l1 n) (l1 m) (bo (l0 n) (l0 m) 0)))) ∧
  ((0<bo (l3 n) (l3 m) (bo (l2 n) (l2 m) (bo (l1 n) (l1 m) (bo (l0 n) (l0 m) 0))))↔n<m):=by
 have a0:=yz n;have a1:=yh n;have a2:=yn n;have a3:=yu n;have b0:=yz m;have b1:=yh m;have b2:=yn m;have b3:=yu m;have en:=xx n hn;have em:=xx m hm;generalize l0 n=x0 at *;generalize l1 n=x1 at *;generalize l2 n=x2 at *;generalize l3 n=x3,l0 m=y0 at *;generalize l1 m=y1 at *;generalize l2 m=y2 at *;generalize l3 m=y3 at *;have e0:=df_bo x0 y0 0 a0 b0 (by omega);have c0:=bo_le x0 y0 0;have s0:=df_lt x0 y0 0;generalize bo x0 y0 0=k0 at *;generalize df x0 y0 0=t0 at *;have e1:=df_bo x1 y1 k0 a1 b1 c0;have c1:=bo_le x1 y1 k0;have s1:=df_lt x1 y1 k0
 generalize bo x1 y1 k0=k1 at *;generalize df x1 y1 k0=t1 at *;have e2:=df_bo x2 y2 k1 a2 b2 c1;have c2:=bo_le x2 y2 k1;have s2:=df_lt x2 y2 k1;generalize bo x2 y2 k1=k2 at *;generalize df x2 y2 k1=t2 at *;have e3:=df_bo x3 y3 k2 a3 b3 c2;have c3:=bo_le x3 y3 k2;have s3:=df_lt x3 y3 k2;generalize bo x3 y3 k2=k3 at *;generalize df x3 y3 k2=t3 at *;have hlt:=mk_lt t0 t1 t2 t3 s0 s1 s2 s3;have key:mk t0 t1 t2 t3+m=n+W*k3:=by
  rw[← en,← em,W_eq];unfold mk M at *;omega
 have hk:k3=0∨k3=1:=by omega
 refine⟨zbi _ t0 t1 t2 t3 ?_ s0 s1 s2 s3,?_⟩
 ·rcases hk with h|h
  ·subst h;rw[show n+W-m=mk t0 t1 t2 t3+W by omega,Nat.add_mod_right,Nat.mod_eq_of_lt hlt]
  ·subst h;rw[show n+W-m=mk t0 t1 t2 t3 by omega,Nat.mod_eq_of_lt hlt]
 ·rcases hk with h|h<;>subst h<;>constructor<;>intro<;>omega
def cmpN (n m:Nat):Int:=if n<m then -1 else if m<n then 1 else 0
theorem zau:M=2^64:=by decide
theorem MM_pow:M*M=2^128:=by decide
theorem MMM_pow:M*M*M=2^192:=by decide
theorem W_pow:W=2^256:=by decide +kernel
theorem and_parts(n m:Nat):l0 (n &&& m)=l0 n &&& l0 m∧l1 (n &&& m)=l1 n &&& l1 m∧l2 (n &&& m)=l2 n &&& l2 m∧l3 (n &&& m)=l3 n &&& l3 m:=by
 unfold l0 l1 l2 l3;rw[MMM_pow,MM_pow,zau];simp only[Nat.and_div_two_pow,Nat.and_mod_two_pow,and_self]
theorem or_parts(n m:Nat):l0 (n ||| m)=l0 n ||| l0 m∧l1 (n ||| m)=l1 n ||| l1 m∧l2 (n ||| m)=l2 n ||| l2 m∧l3 (n ||| m)=l3 n ||| l3 m:=by
 unfold l0 l1 l2 l3;rw[MMM_pow,MM_pow,zau];simp only[Nat.or_div_two_pow,Nat.or_mod_two_pow,and_self]
theorem xor_parts(n m:Nat):l0 (n ^^^ m)=l0 n ^^^ l0 m∧l1 (n ^^^ m)=l1 n ^^^ l1 m∧l2 (n ^^^ m)=l2 n ^^^ l2 m∧l3 (n ^^^ m)=l3 n ^^^ l3 m:=by
 unfold l0 l1 l2 l3;rw[MMM_pow,MM_pow,zau];simp only[Nat.xor_div_two_pow,Nat.xor_mod_two_pow,and_self]
theorem not_parts(n:Nat)(hn:n<W):l0 (W-1-n)=M-1-l0 n∧l1 (W-1-n)=M-1-l1 n∧l2 (W-1-n)=M-1-l2 n∧l3 (W-1-n)=M-1-l3 n:=by
 have a0:=yz n;have a1:=yh n;have a2:=yn n;have a3:=yu n;have en:=xx n hn;refine zbi _ _ _ _ _ ?_ (by omega) (by omega) (by omega) (by omega);rw[W_eq]at *;generalize l0 n=x0 at *;generalize l1 n=x1 at *;generalize l2 n=x2 at *;generalize l3 n=x3 at *;subst en;unfold mk M at *;omega
theorem zbp(a b:Nat)(ha:a<M)(hb:b<M):bits .and .u64 (a:Int) (b:Int)=((a &&& b:Nat):Int):=bits_and_u64_nat a b ha hb
theorem ke(a b:Nat)(ha:a<M)(hb:b<M):bits .or .u64 (a:Int) (b:Int)=((a ||| b:Nat):Int):=bits_or_u64_nat a b ha hb
theorem qc(a b:Nat)(ha:a<M)(hb:b<M):bits .xor .u64 (a:Int) (b:Int)=((a ^^^ b:Nat):Int):=bits_xor_u64_nat a b ha hb
theorem ones_xor(a:Nat)(ha:a<M):(M-1) ^^^ a=M-1-a:=by
 rw[zau]at *;refine Nat.eq_of_testBit_eq fun i=>?_;rw[Nat.testBit_xor,Nat.testBit_two_pow_sub_one,show 2^64-1-a=2^64-(a+1) by omega,Nat.testBit_two_pow_sub_succ ha];by_cases h:i<64
 ·simp[h]
 ·have:a.testBit i=false:=Nat.testBit_lt_two_pow (Nat.lt_of_lt_of_le ha (Nat.pow_le_pow_right (by decide) (by omega)));simp[h,this]
theorem bits_not(a:Nat)(ha:a<M):bits .xor .u64 IntKind.u64.max (a:Int)=((M-1-a:Nat):Int):=by
 have h:=qc (M-1) a (by decide) ha;rw[ones_xor a ha]at h;exact h
theorem za6(r:Nat)(hr:r<64):2^r*2^(64-r)=M:=by
 rw[← Nat.pow_add,show r+(64-r)=64 by omega];decide
theorem lo_eq(x r:Nat)(hr:r<64):x*2^r%M=2^r*(x%2^(64-r)):=by
 rw[← za6 r hr,Nat.mul_comm x,Nat.mul_mod_mul_left]
theorem hi_lt(y r:Nat)(hy:y<M)(hr:r<64):y/2^(64-r)<2^r:=by
 refine Nat.div_lt_of_lt_mul ?_;rw[Nat.mul_comm,za6 r hr];exact hy
theorem hi_eq(x r:Nat)(hr:r<64):x*2^r/M=x/2^(64-r):=by
 rw[← za6 r hr,Nat.mul_comm x,Nat.mul_div_mul_left _ _ (Nat.two_pow_pos r)]
theorem zbl(x r:Nat):IntKind.u64.wrap ((x:Int)*2^r)=((x*2^r%M:Nat):Int):=by
 rw[IntKind.wrap_u64];simp[M]
theorem zda(x r:Nat):(x:Int)/2^r=((x/2^r:Nat):Int):=by simp
theorem kw(x y r:Nat)(hx:x<M)(hy:y<M)(hr:r<64) :
  bits .or .u64 (IntKind.u64.wrap ((x:Int)*2^r)) ((y:Int)/2^(64-r))=((x*2^r%M+y/2^(64-r):Nat):Int)∧x*2^r%M+y/2^(64-r)<M:=by
 have h1:x*2^r%M<M:=Nat.mod_lt _ (by decide);have h2:y/2^(64-r)<M:=Nat.lt_of_le_of_lt (Nat.div_le_self _ _) hy;have e:x*2^r%M+y/2^(64-r)=x*2^r%M ||| y/2^(64-r):=by
  rw[lo_eq x r hr,Nat.two_pow_add_eq_or_of_lt (hi_lt y r hy hr)]
 refine⟨by rw[zbl,zda,ke _ _ h1 h2,e],?_⟩;rw[e];exact Nat.or_lt_two_pow (n:=64) h1 h2
theorem x8(x y r:Nat)(hx:x<M)(hy:y<M)(hr:r<64) :
  bits .or .u64 ((x:Int)/2^r) (IntKind.u64.wrap ((y:Int)*2^(64-r)))=((x/2^r+2^(64-r)*(y%2^r):Nat):Int)∧x/2^r+2^(64-r)*(y%2^r)<M:=by
 have e0:y*2^(64-r)%M=2^(64-r)*(y%2^r):=by
  rw[← za6 r hr,Nat.mul_comm (2^r),Nat.mul_comm y,Nat.mul_mod_mul_left]
 have h1:y*2^(64-r)%M<M:=Nat.mod_lt _ (by decide);have h2:x/2^r<M:=Nat.lt_of_le_of_lt (Nat.div_le_self _ _) hx;have h3:x/2^r<2^(64-r):=Nat.div_lt_of_lt_mul (by rw[za6 r hr];exact hx);have e:x/2^r+2^(64-r)*(y%2^r)=x/2^r ||| y*2^(64-r)%M:=by
  rw[e0,Nat.add_comm,Nat.two_pow_add_eq_or_of_lt h3,Nat.or_comm]
 refine⟨by rw[zbl,zda,ke _ _ h2 h1,e],?_⟩;rw[e];exact Nat.or_lt_two_pow (n:=64) h2 h1
theorem shl_key(n r:Nat)(hn:n<W)(hr:r<64) :
  n*2^r=mk (l0 n*2^r%M) (l1 n*2^r%M+l0 n/2^(64-r)) (l2 n*2^r%M+l1 n/2^(64-r)) (l3 n*2^r%M+l2 n/2^(64-r))+W*(l3 n/2^(64-r)):=by
 have en:=xx n hn;have d0:=Nat.div_add_mod (l0 n*2^r) M;have d1:=Nat.div_add_mod (l1 n*2^r) M;have d2:=Nat.div_add_mod (l2 n*2^r) M;have d3:=Nat.div_add_mod (l3 n*2^r) M;rw[hi_eq _ r hr]at d0 d1 d2 d3;have ex:n*2^r=l0 n*2^r+M*(l1 n*2^r+M*(l2 n*2^r+M*(l3 n*2^r))):=by
  rw[← en,l0_mk _ _ _ _ (yz n),l1_mk _ _ _ _ (yz n) (yh n),l2_mk _ _ _ _ (yz n) (yh n) (yn n),l3_mk _ _ _ _ (yz n) (yh n) (yn n) (yu n)];unfold mk;grind
 rw[ex,W_eq];generalize l0 n*2^r=x0 at *;generalize l1 n*2^r=x1 at *;generalize l2 n*2^r=x2 at *;generalize l3 n*2^r=x3,l0 n/2^(64-r)=y0 at *;generalize l1 n/2^(64-r)=y1 at *;generalize l2 n/2^(64-r)=y2 at *;generalize l3 n/2^(64-r)=y3 at *;unfold mk M at *;omega
theorem shr_key(n r:Nat)(hn:n<W)(hr:r<64) :
  n/2^r=mk (l0 n/2^r+2^(64-r)*(l1 n%2^r)) (l1 n/2^r+2^(64-r)*(l2 n%2^r)) (l2 n/2^r+2^(64-r)*(l3 n%2^r)) (l3 n/2^r):=by
 have en:=xx n hn;have hs:=za6 r hr;have hp:0<2^r:=Nat.two_pow_pos r;have d0:=Nat.div_add_mod (l0 n) (2^r);have d1:=Nat.div_add_mod (l1 n) (2^r);have d2:=Nat.div_add_mod (l2 n) (2^r);have d3:=Nat.div_add_mod (l3 n) (2^r);have s0:=Nat.mod_lt (l0 n) hp;generalize l0 n%2^r=z0 at *;generalize l1 n%2^r=z1 at *;generalize l2 n%2^r=z2 at *;generalize l3 n%2^r=z3,l0 n/2^r=y0 at *;generalize l1 n/2^r=y1 at *;generalize l2 n/2^r=y2 at *;generalize l3 n/2^r=y3 at *;have key:n=z0+2^r*mk (y0+2^(64-r)*z1) (y1+2^(64-r)*z2) (y2+2^(64-r)*z3) y3:=by
  rw[← en,← d0,← d1,← d2,← d3];unfold mk;generalize 2^r=p at *;generalize 2^(64-r)=q at *;rw[← hs];grind
 conv=>lhs;rw[key]
 rw[Nat.add_mul_div_left _ _ hp,Nat.div_eq_of_lt s0,Nat.zero_add]
theorem mk_up(a b c d h:Nat):(mk a b c d+W*h)*M=mk 0 a b c+W*(d+M*h):=by rw[W_eq];unfold mk;grind
theorem mk_mod(a b c d h:Nat)(ha:a<M)(hb:b<M)(hc:c<M)(hd:d<M):(mk a b c d+W*h)%W=mk a b c d:=by
 rw[Nat.add_mul_mod_self_left,Nat.mod_eq_of_lt (mk_lt a b c d ha hb hc hd)]
theorem mk_down(a b c d:Nat)(ha:a<M):mk a b c d/M=mk b c d 0:=by
 unfold mk;rw[mk_div _ _ ha];simp
def cmp4 (a0 a1 a2 a3 b0 b1 b2 b3:Nat):Int:=
 if a3<b3 then -1 else if b3<a3 then 1 else if a2<b2 then -1 else if b2<a2 then 1 else if a1<b1 then -1 else if b1<a1 then 1 else if a0<b0 then -1 else if b0<a0 then 1 else 0
theorem cmp_raw(a0 a1 a2 a3 b0 b1 b2 b3:Nat):RT 148 #[U4 a0 a1 a2 a3,U4 b0 b1 b2 b3] (.int .i64 (cmp4 a0 a1 a2 a3 b0 b1 b2 b3)):=by
 intro w
 go_enter func148,ntmps148
 go_wp2
 refine wp_loop_rounds 5 ?_;by_cases h3:a3<b3
 ·rw[rounds_succ];go_wp2;go_region;go_wp2;go_ret;exact⟨by rw[cmp4,if_pos h3];rfl,(by repeat(first|exact Below.refl _ _|apply Below.drew|refine Below.alloc ?_ (by simp;try omega) _))⟩
 by_cases k3:b3<a3
 ·rw[rounds_succ];go_wp2;go_region;go_wp2;go_region;go_wp2;go_ret;exact⟨by rw[cmp4,if_neg h3,if_pos k3];rfl,(by repeat(first|exact Below.refl _ _|apply Below.drew|refine Below.alloc ?_ (by simp;try omega) _))⟩
 rw[rounds_succ];go_wp2;go_region;go_wp2;go_region;go_wp2;by_cases h2:a2<b2
 ·rw[rounds_succ];go_wp2;go_region;go_wp2;go_ret;exact⟨by rw[cmp4,if_neg h3,if_neg k3,if_pos h2];rfl,(by repeat(first|exact Below.refl _ _|apply Below.drew|refine Below.alloc ?_ (by simp;try omega) _))⟩
 by_cases k2:b2<a2
 ·rw[rounds_succ];go_wp2;go_region;go_wp2;go_region;go_wp2;go_ret;exact⟨by rw[cmp4,if_neg h3,if_neg k3,if_neg h2,if_pos k2];rfl,(by repeat(first|exact Below.refl _ _|apply Below.drew|refine Below.alloc ?_ (by simp;try omega) _))⟩
 rw[rounds_succ];go_wp2;go_region;go_wp2;go_region;go_wp2;by_cases h1:a1<b1
 ·rw[rounds_succ];go_wp2;go_region;go_wp2;go_ret;exact⟨by rw[cmp4,if_neg h3,if_neg k3,if_neg h2,if_neg k2,if_pos h1];rfl,(by repeat(first|exact Below.refl _ _|apply Below.drew|refine Below.alloc ?_ (by simp;try omega) _))⟩
 by_cases k1:b1<a1
 ·rw[rounds_succ];go_wp2;go_region;go_wp2;go_region;go_wp2;go_ret;exact⟨by rw[cmp4,if_neg h3,if_neg k3,if_neg h2,if_neg k2,if_neg h1,if_pos k1];rfl,(by repeat(first|exact Below.refl _ _|apply Below.drew|refine Below.alloc ?_ (by simp;try omega) _))⟩
 rw[rounds_succ];go_wp2;go_region;go_wp2;go_region;go_wp2;by_cases h0:a0<b0
 ·rw[rounds_succ];go_wp2;go_region;go_wp2;go_ret;exact⟨by rw[cmp4,if_neg h3,if_neg k3,if_neg h2,if_neg k2,if_neg h1,if_neg k1,if_pos h0];rfl,(by repeat(first|exact Below.refl _ _|apply Below.drew|refine Below.alloc ?_ (by simp;try omega) _))⟩
 by_cases k0:b0<a0
 ·rw[rounds_succ];go_wp2;go_region;go_wp2;go_region;go_wp2;go_ret;exact⟨by rw[cmp4,if_neg h3,if_neg k3,if_neg h2,if_neg k2,if_neg h1,if_neg k1,if_neg h0,if_pos k0];rfl,(by repeat(first|exact Below.refl _ _|apply Below.drew|refine Below.alloc ?_ (by simp;try omega) _))⟩
 rw[rounds_succ];go_wp2;go_region;go_wp2;go_region;go_wp2;rw[rounds_succ];go_wp2;go_ret;exact⟨by rw[cmp4,if_neg h3,if_neg k3,if_neg h2,if_neg k2,if_neg h1,if_neg k1,if_neg h0,if_neg k0];rfl,(by repeat(first|exact Below.refl _ _|apply Below.drew|refine Below.alloc ?_ (by simp;try omega) _))⟩
theorem run_add(x y c:Nat)(hx:x<M)(hy:y<M)(hc:c≤1)(w:World) :
  (callFunc 57 #[.int .u64 x,.int .u64 y,.int .u64 c]).run prog w=.ok (.value (.tuple #[B (sm x y c),B (cy x y c)])) w:=by
 rw[run_callFunc_extern func57 (by kernel_rfl) (by kernel_rfl) (by kernel_rfl) (e:=add64Entry) (by kernel_rfl),run_add64 x y c (by omega) (by omega) (by omega) (by omega)];simp only[Result.andThen,B,sm,← cy_eq x y c hx hy hc,M_eq]
 congr 5
theorem run_add0(x y:Nat)(hx:x<M)(hy:y<M)(w:World) :
  (callFunc 57 #[.int .u64 x,.int .u64 y,.int .u64 0]).run prog w=.ok (.value (.tuple #[B (sm x y 0),B (cy x y 0)])) w:=run_add x y 0 hx hy (by omega) w
theorem run_sub(x y c:Nat)(hc:c≤1)(w:World) :
  (callFunc 218 #[.int .u64 x,.int .u64 y,.int .u64 c]).run prog w=.ok (.value (.tuple #[B (df x y c),B (bo x y c)])) w:=by
 rw[run_callFunc_extern func218 (by kernel_rfl) (by kernel_rfl) (by kernel_rfl) (e:=(Extern.MathBitsCarry.rows.getLast (by decide)).2) (by kernel_rfl)];have:c=0∨c=1:=by omega
 rcases this with rfl|rfl<;>rfl
theorem run_sub0(x y:Nat)(w:World) :
  (callFunc 218 #[.int .u64 x,.int .u64 y,.int .u64 0]).run prog w=.ok (.value (.tuple #[B (df x y 0),B (bo x y 0)])) w:=run_sub x y 0 (by omega) w
def qw (n m:Nat):Nat:=(n+m)%W
def ovW (n m:Nat):Bool:=decide (W≤n+m)
def subW (n m:Nat):Nat:=(n+W-m)%W
def unW (n m:Nat):Bool:=decide (n<m)
def notW (n:Nat):Nat:=W-1-n
theorem ku:0<W:=by decide
theorem addW_lt(n m:Nat):qw n m<W:=Nat.mod_lt _ ku
theorem subW_lt(n m:Nat):subW n m<W:=Nat.mod_lt _ ku
theorem notW_lt(n:Nat):notW n<W:=by have:=ku;unfold notW;omega
theorem bne_pos(k:Nat):((k:Int) != 0)=decide (0<k):=by
 rw[Bool.eq_iff_iff];simp;omega
theorem cmp4_eq(n m:Nat)(hn:n<W)(hm:m<W):cmp4 (l0 n) (l1 n) (l2 n) (l3 n) (l0 m) (l1 m) (l2 m) (l3 m)=cmpN n m:=by
 have a0:=yz n;have a1:=yh n;have a2:=yn n;have a3:=yu n;have b0:=yz m;have b1:=yh m;have b2:=yn m;have b3:=yu m;have en:=xx n hn;have em:=xx m hm;generalize l0 n=x0 at *;generalize l1 n=x1 at *;generalize l2 n=x2 at *;generalize l3 n=x3,l0 m=y0 at *;generalize l1 m=y1 at *;generalize l2 m=y2 at *;generalize l3 m=y3 at *;have hlt:n<m↔(x3<y3∨x3=y3∧(x2<y2∨x2=y2∧(x1<y1∨x1=y1∧x0<y0))):=by
  rw[← en,← em];unfold mk M at *;omega
 have hgt:m<n↔(y3<x3∨y3=x3∧(y2<x2∨y2=x2∧(y1<x1∨y1=x1∧y0<x0))):=by
  rw[← en,← em];unfold mk M at *;omega
 unfold cmp4 cmpN;simp only[hlt,hgt];clear hlt hgt en em;by_cases h3:x3<y3
 ·rw[if_pos h3,if_pos (by omega)]
 by_cases k3:y3<x3
 ·rw[if_neg h3,if_pos k3,if_neg (by omega),if_pos (by omega)]
 by_cases h2:x2<y2
 ·rw[if_neg h3,if_neg k3,if_pos h2,if_pos (by omega)]
 by_cases k2:y2<x2
 ·rw[if_neg h3,if_neg k3,if_neg h2,if_pos k2,if_neg (by omega),if_pos (by omega)]
 by_cases h1:x1<y1
 ·rw[if_neg h3,if_neg k3,if_neg h2,if_neg k2,if_pos h1,if_pos (by omega)]
 by_cases k1:y1<x1
 ·rw[if_neg h3,if_neg k3,if_neg h2,if_neg k2,if_neg h1,if_pos k1,if_neg (by omega),if_pos (by omega)]
 by_cases h0:x0<y0
 ·rw[if_neg h3,if_neg k3,if_neg h2,if_neg k2,if_neg h1,if_neg k1,if_pos h0,if_pos (by omega)]
 by_cases k0:y0<x0
 ·rw[if_neg h3,if_neg k3,if_neg h2,if_neg k2,if_neg h1,if_neg k1,if_neg h0,if_pos k0,if_neg (by omega),if_pos (by omega)]
 rw[if_neg h3,if_neg k3,if_neg h2,if_neg k2,if_neg h1,if_neg k1,if_neg h0,if_neg k0,if_neg (by omega),if_neg (by omega)]
theorem za7(a:Nat)(h:a<M):l0 a=a∧l1 a=0∧l2 a=0∧l3 a=0:=by
 unfold l0 l1 l2 l3 M at *;omega
theorem add_any(n m:Nat)(hn:n<W)(hm:m<W):RT 91 #[U n,U m] (.tuple #[U (qw n m),.bool (ovW n m)]):=by
 intro w;refine(add_raw sm cy cy_le run_add run_add0 (l0 n) (l1 n) (l2 n) (l3 n) (l0 m) (l1 m) (l2 m) (l3 m) (yz n) (yz m) (yh n) (yh m) (yn n) (yn m) (yu n) (yu m) w).mono ?_;rintro e w' ⟨rfl,hb⟩;obtain⟨⟨e0,e1,e2,e3⟩,ec⟩:=add_parts n m hn hm;exact⟨by rw[bne_pos,decide_eq_decide.2 ec];unfold U qw ovW;rw[e0,e1,e2,e3],hb⟩
theorem radd_any(n m:Nat)(hn:n<W)(hm:m<W):RT 40 #[U n,U m] (.tuple #[U (qw n m),.bool (ovW n m)]):=by
 intro w;refine(radd_raw sm cy cy_le run_add run_add0 (l0 n) (l1 n) (l2 n) (l3 n) (l0 m) (l1 m) (l2 m) (l3 m) (yz n) (yz m) (yh n) (yh m) (yn n) (yn m) (yu n) (yu m) w).mono ?_;rintro e w' ⟨rfl,hb⟩;obtain⟨⟨e0,e1,e2,e3⟩,ec⟩:=add_parts n m hn hm;exact⟨by rw[decide_eq_decide.2 ec];unfold U qw ovW;rw[e0,e1,e2,e3],hb⟩
theorem sub_any(n m:Nat)(hn:n<W)(hm:m<W):RT 246 #[U n,U m] (.tuple #[U (subW n m),.bool (unW n m)]):=by
 intro w;refine(sub_raw df bo bo_le run_sub run_sub0 (l0 n) (l1 n) (l2 n) (l3 n) (l0 m) (l1 m) (l2 m) (l3 m) w).mono ?_;rintro e w' ⟨rfl,hb⟩;obtain⟨⟨e0,e1,e2,e3⟩,ec⟩:=sub_parts n m hn hm;exact⟨by rw[bne_pos,decide_eq_decide.2 ec];unfold U subW unW;rw[e0,e1,e2,e3],hb⟩
theorem zbv(n m:Nat)(hn:n<W)(hm:m<W):RT 148 #[U n,U m] (.int .i64 (cmpN n m)):=by
 intro w;refine(cmp_raw (l0 n) (l1 n) (l2 n) (l3 n) (l0 m) (l1 m) (l2 m) (l3 m) w).mono ?_;rintro e w' ⟨rfl,hb⟩;exact⟨by rw[cmp4_eq n m hn hm],hb⟩
theorem and_any(n m:Nat):RT 268 #[U n,U m] (U (n &&& m)):=by
 intro w;refine(and_raw (l0 n) (l1 n) (l2 n) (l3 n) (l0 m) (l1 m) (l2 m) (l3 m) w).mono ?_;rintro e w' ⟨rfl,hb⟩;obtain⟨e0,e1,e2,e3⟩:=and_parts n m;exact⟨by rw[zbp _ _ (yz n) (yz m),zbp _ _ (yh n) (yh m),zbp _ _ (yn n) (yn m),zbp _ _ (yu n) (yu m)];unfold U;rw[e0,e1,e2,e3],hb⟩
theorem or_any(n m:Nat):RT 269 #[U n,U m] (U (n ||| m)):=by
 intro w;refine(or_raw (l0 n) (l1 n) (l2 n) (l3 n) (l0 m) (l1 m) (l2 m) (l3 m) w).mono ?_;rintro e w' ⟨rfl,hb⟩;obtain⟨e0,e1,e2,e3⟩:=or_parts n m;exact⟨by rw[ke _ _ (yz n) (yz m),ke _ _ (yh n) (yh m),ke _ _ (yn n) (yn m),ke _ _ (yu n) (yu m)];unfold U;rw[e0,e1,e2,e3],hb⟩
theorem xor_any(n m:Nat):RT 270 #[U n,U m] (U (n ^^^ m)):=by
 intro w;refine(xor_raw (l0 n) (l1 n) (l2 n) (l3 n) (l0 m) (l1 m) (l2 m) (l3 m) w).mono ?_;rintro e w' ⟨rfl,hb⟩;obtain⟨e0,e1,e2,e3⟩:=xor_parts n m;exact⟨by rw[qc _ _ (yz n) (yz m),qc _ _ (yh n) (yh m),qc _ _ (yn n) (yn m),qc _ _ (yu n) (yu m)];unfold U;rw[e0,e1,e2,e3],hb⟩
theorem not_any(n:Nat)(hn:n<W):RT 271 #[U n] (U (notW n)):=by
 intro w;refine(not_raw (l0 n) (l1 n) (l2 n) (l3 n) w).mono ?_;rintro e w' ⟨rfl,hb⟩;obtain⟨e0,e1,e2,e3⟩:=not_parts n hn;exact⟨by rw[bits_not _ (yz n),bits_not _ (yh n),bits_not _ (yn n),bits_not _ (yu n)];unfold U notW;rw[e0,e1,e2,e3],hb⟩
theorem zcx(a:Nat)(h:a<M):RT 48 #[B a] (U a):=by
 intro w;refine(of_raw a w).mono ?_;rintro e w' ⟨rfl,hb⟩;obtain⟨e0,e1,e2,e3⟩:=za7 a h;exact⟨by unfold U;rw[e0,e1,e2,e3];rfl,hb⟩
theorem shl_0_raw(a0 a1 a2 a3 k r:Nat)(hk:k<256)(hq:(k:Int)/64=0)(hr:(k:Int)%64=(r:Int))(hr1:r<64):RT 274 #[U4 a0 a1 a2 a3,B k] (I4 (IntKind.u64.wrap ((a0:Int)*2^r)) (bits .or .u64 (IntKind.u64.wrap ((a1:Int)*2^r)) ((a0:Int)/2^(64-r))) (bits .or .u64 (IntKind.u64.wrap ((a2:Int)*2^r)) ((a1:Int)/2^(64-r))) (bits .or .u64 (IntKind.u64.wrap ((a3:Int)*2^r)) ((a2:Int)/2^(64-r)))):=by
 intro w
 go_enter func274,ntmps274
 go_wp2
 refine wp_loop_rounds 5 ?_;rw[rounds_succ];go_wp2;rw[rounds_succ];go_wp2;go_region;go_wp2;rw[rounds_succ];go_wp2;go_region;go_wp2;rw[rounds_succ];go_wp2;go_region;go_wp2;rw[rounds_succ];go_wp2
 exact bodyPost_ret (v:=I4 (IntKind.u64.wrap ((a0:Int)*2^r)) (bits .or .u64 (IntKind.u64.wrap ((a1:Int)*2^r)) ((a0:Int)/2^(64-r))) (bits .or .u64 (IntKind.u64.wrap ((a2:Int)*2^r)) ((a1:Int)/2^(64-r))) (bits .or .u64 (IntKind.u64.wrap ((a3:Int)*2^r)) ((a2:Int)/2^(64-r)))) (by simp[results,results274,go_sem]) rfl ⟨rfl,(by repeat(first|exact Below.refl _ _|apply Below.drew|refine Below.alloc ?_ (by simp;try omega) _))⟩
theorem shl_1_raw(a0 a1 a2 a3 k r:Nat)(hk:k<256)(hq:(k:Int)/64=1)(hr:(k:Int)%64=(r:Int))(hr1:r<64):RT 274 #[U4 a0 a1 a2 a3,B k] (I4 0 (IntKind.u64.wrap ((a0:Int)*2^r)) (bits .or .u64 (IntKind.u64.wrap ((a1:Int)*2^r)) ((a0:Int)/2^(64-r))) (bits .or .u64 (IntKind.u64.wrap ((a2:Int)*2^r)) ((a1:Int)/2^(64-r)))):=by
 intro w
 go_enter func274,ntmps274
 go_wp2
 refine wp_loop_rounds 5 ?_;rw[rounds_succ];go_wp2;rw[rounds_succ];go_wp2;go_region;go_wp2;rw[rounds_succ];go_wp2;go_region;go_wp2;rw[rounds_succ];go_wp2;exact bodyPost_ret (v:=I4 0 (IntKind.u64.wrap ((a0:Int)*2^r)) (bits .or .u64 (IntKind.u64.wrap ((a1:Int)*2^r)) ((a0:Int)/2^(64-r))) (bits .or .u64 (IntKind.u64.wrap ((a2:Int)*2^r)) ((a1:Int)/2^(64-r)))) (by simp[results,results274,go_sem]) rfl ⟨rfl,(by repeat(first|exact Below.refl _ _|apply Below.drew|refine Below.alloc ?_ (by simp;try omega) _))⟩
theorem shl_2_raw(a0 a1 a2 a3 k r:Nat)(hk:k<256)(hq:(k:Int)/64=2)(hr:(k:Int)%64=(r:Int))(hr1:r<64):RT 274 #[U4 a0 a1 a2 a3,B k] (I4 0 0 (IntKind.u64.wrap ((a0:Int)*2^r)) (bits .or .u64 (IntKind.u64.wrap ((a1:Int)*2^r)) ((a0:Int)/2^(64-r)))):=by
 intro w
 go_enter func274,ntmps274
 go_wp2
 refine wp_loop_rounds 5 ?_;rw[rounds_succ];go_wp2;rw[rounds_succ];go_wp2;go_region;go_wp2;rw[rounds_succ];go_wp2;exact bodyPost_ret (v:=I4 0 0 (IntKind.u64.wrap ((a0:Int)*2^r)) (bits .or .u64 (IntKind.u64.wrap ((a1:Int)*2^r)) ((a0:Int)/2^(64-r)))) (by simp[results,results274,go_sem]) rfl ⟨rfl,(by repeat(first|exact Below.refl _ _|apply Below.drew|refine Below.alloc ?_ (by simp;try omega) _))⟩
theorem shl_3_raw(a0 a1 a2 a3 k r:Nat)(hk:k<256)(hq:(k:Int)/64=3)(hr:(k:Int)%64=(r:Int))(hr1:r<64):RT 274 #[U4 a0 a1 a2 a3,B k] (I4 0 0 0 (IntKind.u64.wrap ((a0:Int)*2^r))):=by
 intro w
 go_enter func274,ntmps274
 go_wp2
 refine wp_loop_rounds 5 ?_;rw[rounds_succ];go_wp2;rw[rounds_succ];go_wp2;exact bodyPost_ret (v:=I4 0 0 0 (IntKind.u64.wrap ((a0:Int)*2^r))) (by simp[results,results274,go_sem]) rfl ⟨rfl,(by repeat(first|exact Below.refl _ _|apply Below.drew|refine Below.alloc ?_ (by simp;try omega) _))⟩
theorem shl_big_raw(a0 a1 a2 a3 k:Nat)(hk:256≤k):RT 274 #[U4 a0 a1 a2 a3,B k] (I4 0 0 0 0):=by
 intro w;have hk':(256:Int)≤(k:Int):=by omega
 go_enter func274,ntmps274
 go_wp2
 exact bodyPost_ret (v:=I4 0 0 0 0) (by simp[results,results274,go_sem]) rfl ⟨rfl,(by repeat(first|exact Below.refl _ _|apply Below.drew|refine Below.alloc ?_ (by simp;try omega) _))⟩
theorem shr_0_raw(a0 a1 a2 a3 k r:Nat)(hk:k<256)(hq:(k:Int)/64=0)(hr:(k:Int)%64=(r:Int))(hr1:r<64):RT 275 #[U4 a0 a1 a2 a3,B k] (I4 (bits .or .u64 ((a0:Int)/2^r) (IntKind.u64.wrap ((a1:Int)*2^(64-r)))) (bits .or .u64 ((a1:Int)/2^r) (IntKind.u64.wrap ((a2:Int)*2^(64-r)))) (bits .or .u64 ((a2:Int)/2^r) (IntKind.u64.wrap ((a3:Int)*2^(64-r)))) ((a3:Int)/2^r)):=by
 intro w
 go_enter func275,ntmps275
 go_wp2
 refine wp_loop_rounds 5 ?_;rw[rounds_succ];go_wp2;go_region;go_wp2;rw[rounds_succ];go_wp2;go_region;go_wp2;rw[rounds_succ];go_wp2;go_region;go_wp2;rw[rounds_succ];go_wp2;rw[rounds_succ];go_wp2
 exact bodyPost_ret (v:=I4 (bits .or .u64 ((a0:Int)/2^r) (IntKind.u64.wrap ((a1:Int)*2^(64-r)))) (bits .or .u64 ((a1:Int)/2^r) (IntKind.u64.wrap ((a2:Int)*2^(64-r)))) (bits .or .u64 ((a2:Int)/2^r) (IntKind.u64.wrap ((a3:Int)*2^(64-r)))) ((a3:Int)/2^r)) (by simp[results,results275,go_sem]) rfl ⟨rfl,(by repeat(first|exact Below.refl _ _|apply Below.drew|refine Below.alloc ?_ (by simp;try omega) _))⟩
theorem shr_1_raw(a0 a1 a2 a3 k r:Nat)(hk:k<256)(hq:(k:Int)/64=1)(hr:(k:Int)%64=(r:Int))(hr1:r<64):RT 275 #[U4 a0 a1 a2 a3,B k] (I4 (bits .or .u64 ((a1:Int)/2^r) (IntKind.u64.wrap ((a2:Int)*2^(64-r)))) (bits .or .u64 ((a2:Int)/2^r) (IntKind.u64.wrap ((a3:Int)*2^(64-r)))) ((a3:Int)/2^r) 0):=by
 intro w
 go_enter func275,ntmps275
 go_wp2
 refine wp_loop_rounds 5 ?_;rw[rounds_succ];go_wp2;go_region;go_wp2;rw[rounds_succ];go_wp2;go_region;go_wp2;rw[rounds_succ];go_wp2;rw[rounds_succ];go_wp2;exact bodyPost_ret (v:=I4 (bits .or .u64 ((a1:Int)/2^r) (IntKind.u64.wrap ((a2:Int)*2^(64-r)))) (bits .or .u64 ((a2:Int)/2^r) (IntKind.u64.wrap ((a3:Int)*2^(64-r)))) ((a3:Int)/2^r) 0) (by simp[results,results275,go_sem]) rfl ⟨rfl,(by repeat(first|exact Below.refl _ _|apply Below.drew|refine Below.alloc ?_ (by simp;try omega) _))⟩
theorem shr_2_raw(a0 a1 a2 a3 k r:Nat)(hk:k<256)(hq:(k:Int)/64=2)(hr:(k:Int)%64=(r:Int))(hr1:r<64):RT 275 #[U4 a0 a1 a2 a3,B k] (I4 (bits .or .u64 ((a2:Int)/2^r) (IntKind.u64.wrap ((a3:Int)*2^(64-r)))) ((a3:Int)/2^r) 0 0):=by
 intro w
 go_enter func275,ntmps275
 go_wp2
 refine wp_loop_rounds 5 ?_;rw[rounds_succ];go_wp2;go_region;go_wp2;rw[rounds_succ];go_wp2;rw[rounds_succ];go_wp2;exact bodyPost_ret (v:=I4 (bits .or .u64 ((a2:Int)/2^r) (IntKind.u64.wrap ((a3:Int)*2^(64-r)))) ((a3:Int)/2^r) 0 0) (by simp[results,results275,go_sem]) rfl ⟨rfl,(by repeat(first|exact Below.refl _ _|apply Below.drew|refine Below.alloc ?_ (by simp;try omega) _))⟩
theorem shr_3_raw(a0 a1 a2 a3 k r:Nat)(hk:k<256)(hq:(k:Int)/64=3)(hr:(k:Int)%64=(r:Int))(hr1:r<64):RT 275 #[U4 a0 a1 a2 a3,B k] (I4 ((a3:Int)/2^r) 0 0 0):=by
 intro w
 go_enter func275,ntmps275
 go_wp2
 refine wp_loop_rounds 5 ?_;rw[rounds_succ];go_wp2;rw[rounds_succ];go_wp2;exact bodyPost_ret (v:=I4 ((a3:Int)/2^r) 0 0 0) (by simp[results,results275,go_sem]) rfl ⟨rfl,(by repeat(first|exact Below.refl _ _|apply Below.drew|refine Below.alloc ?_ (by simp;try omega) _))⟩
theorem shr_big_raw(a0 a1 a2 a3 k:Nat)(hk:256≤k):RT 275 #[U4 a0 a1 a2 a3,B k] (I4 0 0 0 0):=by
 intro w;have hk':(256:Int)≤(k:Int):=by omega
 go_enter func275,ntmps275
 go_wp2
 exact bodyPost_ret (v:=I4 0 0 0 0) (by simp[results,results275,go_sem]) rfl ⟨rfl,(by repeat(first|exact Below.refl _ _|apply Below.drew|refine Below.alloc ?_ (by simp;try omega) _))⟩
def bits4 (a0 a1 a2 a3:Nat):Nat:=
 if a3=0 then if a2=0 then if a1=0 then if a0=0 then 0 else Lib.bitLen a0 else 64+Lib.bitLen a1 else 128+Lib.bitLen a2 else 192+Lib.bitLen a3
theorem zb1(x:Nat)(h:x<18446744073709551616):Lib.bitLen x≤64:=Lib.bitLenAux_le 64 x 64 h
theorem bits_raw(a0 a1 a2 a3:Nat)(g0:a0<18446744073709551616)(g1:a1<18446744073709551616)(g2:a2<18446744073709551616)(g3:a3<18446744073709551616):RT 214 #[U4 a0 a1 a2 a3] (.int .i64 (bits4 a0 a1 a2 a3:Nat)):=by
 intro w;have b0:=zb1 a0 g0;have b1:=zb1 a1 g1;have b2:=zb1 a2 g2;have b3:=zb1 a3 g3
 go_enter func214,ntmps214
 go_wp2
 refine wp_loop_rounds 5 ?_;by_cases h3:a3=0
 case neg=>
  have k3:((a3:Int) != 0)=true:=by rw[bne_iff_ne];omega
  rw[rounds_succ];go_wp2_with (go_at_call 151;refine(zee a3 g3 _).mono ?_;rintro e w1 ⟨rfl,rfl⟩)
  go_ret
  exact⟨by rw[bits4,if_neg h3];simp;done,(by repeat(first|exact Below.refl _ _|apply Below.drew|refine Below.alloc ?_ (by simp;try omega) _))⟩
 have k3:((a3:Int) != 0)=false:=by rw[h3];rfl
 rw[rounds_succ];go_wp2;by_cases h2:a2=0
 case neg=>
  have k2:((a2:Int) != 0)=true:=by rw[bne_iff_ne];omega
  rw[rounds_succ];go_wp2_with (go_at_call 151;refine(zee a2 g2 _).mono ?_;rintro e w1 ⟨rfl,rfl⟩)
  go_ret
  exact⟨by rw[bits4,if_pos h3,if_neg h2];simp;done,(by repeat(first|exact Below.refl _ _|apply Below.drew|refine Below.alloc ?_ (by simp;try omega) _))⟩
 have k2:((a2:Int) != 0)=false:=by rw[h2];rfl
 rw[rounds_succ];go_wp2;by_cases h1:a1=0
 case neg=>
  have k1:((a1:Int) != 0)=true:=by rw[bne_iff_ne];omega
  rw[rounds_succ];go_wp2_with (go_at_call 151;refine(zee a1 g1 _).mono ?_;rintro e w1 ⟨rfl,rfl⟩)
  go_ret
  exact⟨by rw[bits4,if_pos h3,if_pos h2,if_neg h1];simp;done,(by repeat(first|exact Below.refl _ _|apply Below.drew|refine Below.alloc ?_ (by simp;try omega) _))⟩
 have k1:((a1:Int) != 0)=false:=by rw[h1];rfl
 rw[rounds_succ];go_wp2;by_cases h0:a0=0
 case neg=>
  have k0:((a0:Int) != 0)=true:=by rw[bne_iff_ne];omega
  rw[rounds_succ];go_wp2_with (go_at_call 151;refine(zee a0 g0 _).mono ?_;rintro e w1 ⟨rfl,rfl⟩)
  go_ret
  exact⟨by rw[bits4,if_pos h3,if_pos h2,if_pos h1,if_neg h0];simp;done,(by repeat(first|exact Below.refl _ _|apply Below.drew|refine Below.alloc ?_ (by simp;try omega) _))⟩
 have k0:((a0:Int) != 0)=false:=by rw[h0];rfl
 rw[rounds_succ];go_wp2;rw[rounds_succ];go_wp2;go_ret;exact⟨by rw[bits4,if_pos h3,if_pos h2,if_pos h1,if_pos h0];rfl,(by repeat(first|exact Below.refl _ _|apply Below.drew|refine Below.alloc ?_ (by simp;try omega) _))⟩
def shlW (n k:Nat):Nat:=n*2^k%W
def vw (n k:Nat):Nat:=n/2^k
theorem shlW_lt(n k:Nat):shlW n k<W:=Nat.mod_lt _ ku
theorem shrW_lt(n k:Nat)(h:n<W):vw n k<W:=Nat.lt_of_le_of_lt (Nat.div_le_self _ _) h
theorem U_zero:U 0=I4 0 0 0 0:=rfl
theorem shl_big_zero(n k:Nat)(h:256≤k):n*2^k%W=0:=by
 rw[W_pow,show k=256+(k-256) by omega,Nat.pow_add,Nat.mul_left_comm,Nat.mul_mod_right]
theorem shr_big_zero(n k:Nat)(hn:n<W)(h:256≤k):n/2^k=0:=by
 rw[W_pow]at hn;exact Nat.div_eq_of_lt (Nat.lt_of_lt_of_le hn (Nat.pow_le_pow_right (by decide) h))
theorem pow_q(q r:Nat):2^(64*q+r)=2^r*M^q:=by
 rw[Nat.add_comm,Nat.pow_add,Nat.pow_mul,zau]
theorem shl_q0(n r:Nat)(hn:n<W)(hr:r<64):RT 274 #[U n,B (64*0+r)] (U (n*2^(64*0+r)%W)):=by
 intro w;refine(shl_0_raw (l0 n) (l1 n) (l2 n) (l3 n) (64*0+r) r (by omega) (by omega) (by omega) hr w).mono ?_;rintro e w' ⟨rfl,hb⟩;have b0:l0 n*2^r%M<M:=Nat.mod_lt _ (by decide);have b1:=(kw (l1 n) (l0 n) r (yh n) (yz n) hr).2;have b2:=(kw (l2 n) (l1 n) r (yn n) (yh n) hr).2;have b3:=(kw (l3 n) (l2 n) r (yu n) (yn n) hr).2;have e:n*2^(64*0+r)%W=mk (l0 n*2^r%M) (l1 n*2^r%M+l0 n/2^(64-r)) (l2 n*2^r%M+l1 n/2^(64-r)) (l3 n*2^r%M+l2 n/2^(64-r)):=by
  rw[pow_q,← Nat.mul_assoc];rw[Nat.pow_zero,Nat.mul_one];rw[shl_key n r hn hr,mk_mod _ _ _ _ _ b0 b1 b2 b3]
 obtain⟨e0,e1,e2,e3⟩:=zbi _ _ _ _ _ e b0 b1 b2 b3;exact⟨by unfold U;rw[e0,e1,e2,e3,zbl,(kw _ _ r (yh n) (yz n) hr).1,(kw _ _ r (yn n) (yh n) hr).1,(kw _ _ r (yu n) (yn n) hr).1],hb⟩
theorem shl_q1(n r:Nat)(hn:n<W)(hr:r<64):RT 274 #[U n,B (64*1+r)] (U (n*2^(64*1+r)%W)):=by
 intro w;refine(shl_1_raw (l0 n) (l1 n) (l2 n) (l3 n) (64*1+r) r (by omega) (by omega) (by omega) hr w).mono ?_;rintro e w' ⟨rfl,hb⟩;have b0:l0 n*2^r%M<M:=Nat.mod_lt _ (by decide);have b1:=(kw (l1 n) (l0 n) r (yh n) (yz n) hr).2;have b2:=(kw (l2 n) (l1 n) r (yn n) (yh n) hr).2;have b3:=(kw (l3 n) (l2 n) r (yu n) (yn n) hr).2;have e:n*2^(64*1+r)%W=mk 0 (l0 n*2^r%M) (l1 n*2^r%M+l0 n/2^(64-r)) (l2 n*2^r%M+l1 n/2^(64-r)):=by
  rw[pow_q,← Nat.mul_assoc];rw[Nat.pow_one];rw[shl_key n r hn hr,mk_up,mk_mod _ _ _ _ _ (by decide) b0 b1 b2]
 obtain⟨e0,e1,e2,e3⟩:=zbi _ _ _ _ _ e (by decide) b0 b1 b2;exact⟨by unfold U;rw[e0,e1,e2,e3,zbl,(kw _ _ r (yh n) (yz n) hr).1,(kw _ _ r (yn n) (yh n) hr).1];rfl,hb⟩
theorem shl_q2(n r:Nat)(hn:n<W)(hr:r<64):RT 274 #[U n,B (64*2+r)] (U (n*2^(64*2+r)%W)):=by
 intro w;refine(shl_2_raw (l0 n) (l1 n) (l2 n) (l3 n) (64*2+r) r (by omega) (by omega) (by omega) hr w).mono ?_;rintro e w' ⟨rfl,hb⟩;have b0:l0 n*2^r%M<M:=Nat.mod_lt _ (by decide);have b1:=(kw (l1 n) (l0 n) r (yh n) (yz n) hr).2;have b2:=(kw (l2 n) (l1 n) r (yn n) (yh n) hr).2;have b3:=(kw (l3 n) (l2 n) r (yu n) (yn n) hr).2;have e:n*2^(64*2+r)%W=mk 0 0 (l0 n*2^r%M) (l1 n*2^r%M+l0 n/2^(64-r)):=by
  rw[pow_q,← Nat.mul_assoc];rw[show M^2=M*M from by decide,← Nat.mul_assoc];rw[shl_key n r hn hr,mk_up,mk_up,mk_mod _ _ _ _ _ (by decide) (by decide) b0 b1]
 obtain⟨e0,e1,e2,e3⟩:=zbi _ _ _ _ _ e (by decide) (by decide) b0 b1;exact⟨by unfold U;rw[e0,e1,e2,e3,zbl,(kw _ _ r (yh n) (yz n) hr).1];rfl,hb⟩
theorem shl_q3(n r:Nat)(hn:n<W)(hr:r<64):RT 274 #[U n,B (64*3+r)] (U (n*2^(64*3+r)%W)):=by
 intro w;refine(shl_3_raw (l0 n) (l1 n) (l2 n) (l3 n) (64*3+r) r (by omega) (by omega) (by omega) hr w).mono ?_;rintro e w' ⟨rfl,hb⟩;have b0:l0 n*2^r%M<M:=Nat.mod_lt _ (by decide);have b1:=(kw (l1 n) (l0 n) r (yh n) (yz n) hr).2;have b2:=(kw (l2 n) (l1 n) r (yn n) (yh n) hr).2;have b3:=(kw (l3 n) (l2 n) r (yu n) (yn n) hr).2;have e:n*2^(64*3+r)%W=mk 0 0 0 (l0 n*2^r%M):=by
  rw[pow_q,← Nat.mul_assoc];rw[show M^3=M*M*M from by decide +kernel,← Nat.mul_assoc,← Nat.mul_assoc];rw[shl_key n r hn hr,mk_up,mk_up,mk_up,mk_mod _ _ _ _ _ (by decide) (by decide) (by decide) b0]
 obtain⟨e0,e1,e2,e3⟩:=zbi _ _ _ _ _ e (by decide) (by decide) (by decide) b0;exact⟨by unfold U;rw[e0,e1,e2,e3,zbl];rfl,hb⟩
theorem shr_q0(n r:Nat)(hn:n<W)(hr:r<64):RT 275 #[U n,B (64*0+r)] (U (n/2^(64*0+r))):=by
 intro w;refine(shr_0_raw (l0 n) (l1 n) (l2 n) (l3 n) (64*0+r) r (by omega) (by omega) (by omega) hr w).mono ?_;rintro e w' ⟨rfl,hb⟩;have b0:=(x8 (l0 n) (l1 n) r (yz n) (yh n) hr).2;have b1:=(x8 (l1 n) (l2 n) r (yh n) (yn n) hr).2;have b2:=(x8 (l2 n) (l3 n) r (yn n) (yu n) hr).2;have b3:l3 n/2^r<M:=Nat.lt_of_le_of_lt (Nat.div_le_self _ _) (yu n);have e:n/2^(64*0+r)=mk (l0 n/2^r+2^(64-r)*(l1 n%2^r)) (l1 n/2^r+2^(64-r)*(l2 n%2^r)) (l2 n/2^r+2^(64-r)*(l3 n%2^r)) (l3 n/2^r):=by
  rw[pow_q,← Nat.div_div_eq_div_mul,Nat.pow_zero,Nat.div_one,shr_key n r hn hr]
 obtain⟨e0,e1,e2,e3⟩:=zbi _ _ _ _ _ e b0 b1 b2 b3;exact⟨by unfold U;rw[e0,e1,e2,e3,(x8 _ _ r (yz n) (yh n) hr).1,(x8 _ _ r (yh n) (yn n) hr).1,(x8 _ _ r (yn n) (yu n) hr).1,zda],hb⟩
theorem shr_q1(n r:Nat)(hn:n<W)(hr:r<64):RT 275 #[U n,B (64*1+r)] (U (n/2^(64*1+r))):=by
 intro w;refine(shr_1_raw (l0 n) (l1 n) (l2 n) (l3 n) (64*1+r) r (by omega) (by omega) (by omega) hr w).mono ?_;rintro e w' ⟨rfl,hb⟩;have b0:=(x8 (l0 n) (l1 n) r (yz n) (yh n) hr).2;have b1:=(x8 (l1 n) (l2 n) r (yh n) (yn n) hr).2;have b2:=(x8 (l2 n) (l3 n) r (yn n) (yu n) hr).2;have b3:l3 n/2^r<M:=Nat.lt_of_le_of_lt (Nat.div_le_self _ _) (yu n);have e:n/2^(64*1+r)=mk (l1 n/2^r+2^(64-r)*(l2 n%2^r)) (l2 n/2^r+2^(64-r)*(l3 n%2^r)) (l3 n/2^r) 0:=by
  rw[pow_q,← Nat.div_div_eq_div_mul,Nat.pow_one,shr_key n r hn hr,mk_down _ _ _ _ b0]
 obtain⟨e0,e1,e2,e3⟩:=zbi _ _ _ _ _ e b1 b2 b3 (by decide);exact⟨by unfold U;rw[e0,e1,e2,e3,(x8 _ _ r (yh n) (yn n) hr).1,(x8 _ _ r (yn n) (yu n) hr).1,zda];rfl,hb⟩
theorem shr_q2(n r:Nat)(hn:n<W)(hr:r<64):RT 275 #[U n,B (64*2+r)] (U (n/2^(64*2+r))):=by
 intro w;refine(shr_2_raw (l0 n) (l1 n) (l2 n) (l3 n) (64*2+r) r (by omega) (by omega) (by omega) hr w).mono ?_;rintro e w' ⟨rfl,hb⟩;have b0:=(x8 (l0 n) (l1 n) r (yz n) (yh n) hr).2;have b1:=(x8 (l1 n) (l2 n) r (yh n) (yn n) hr).2;have b2:=(x8 (l2 n) (l3 n) r (yn n) (yu n) hr).2;have b3:l3 n/2^r<M:=Nat.lt_of_le_of_lt (Nat.div_le_self _ _) (yu n);have e:n/2^(64*2+r)=mk (l2 n/2^r+2^(64-r)*(l3 n%2^r)) (l3 n/2^r) 0 0:=by
  rw[pow_q,← Nat.div_div_eq_div_mul,show M^2=M*M from by decide,← Nat.div_div_eq_div_mul,shr_key n r hn hr,mk_down _ _ _ _ b0,mk_down _ _ _ _ b1]
 obtain⟨e0,e1,e2,e3⟩:=zbi _ _ _ _ _ e b2 b3 (by decide) (by decide);exact⟨by unfold U;rw[e0,e1,e2,e3,(x8 _ _ r (yn n) (yu n) hr).1,zda];rfl,hb⟩
theorem shr_q3(n r:Nat)(hn:n<W)(hr:r<64):RT 275 #[U n,B (64*3+r)] (U (n/2^(64*3+r))):=by
 intro w;refine(shr_3_raw (l0 n) (l1 n) (l2 n) (l3 n) (64*3+r) r (by omega) (by omega) (by omega) hr w).mono ?_;rintro e w' ⟨rfl,hb⟩;have b0:=(x8 (l0 n) (l1 n) r (yz n) (yh n) hr).2;have b1:=(x8 (l1 n) (l2 n) r (yh n) (yn n) hr).2;have b2:=(x8 (l2 n) (l3 n) r (yn n) (yu n) hr).2;have b3:l3 n/2^r<M:=Nat.lt_of_le_of_lt (Nat.div_le_self _ _) (yu n);have e:n/2^(64*3+r)=mk (l3 n/2^r) 0 0 0:=by
  rw[pow_q,← Nat.div_div_eq_div_mul,show M^3=M*M*M from by decide +kernel,← Nat.div_div_eq_div_mul,← Nat.div_div_eq_div_mul,shr_key n r hn hr,mk_down _ _ _ _ b0,mk_down _ _ _ _ b1,mk_down _ _ _ _ b2]
 obtain⟨e0,e1,e2,e3⟩:=zbi _ _ _ _ _ e b3 (by decide) (by decide) (by decide);exact⟨by unfold U;rw[e0,e1,e2,e3,zda];rfl,hb⟩
theorem shl_any(n k:Nat)(hn:n<W):RT 274 #[U n,B k] (U (shlW n k)):=by
 intro w;by_cases h:256≤k
 ·refine(shl_big_raw (l0 n) (l1 n) (l2 n) (l3 n) k h w).mono ?_;rintro e w' ⟨rfl,hb⟩;exact⟨by rw[shlW,shl_big_zero n k h,U_zero],hb⟩
 ·have hr:k%64<64:=Nat.mod_lt _ (by decide);have hk:k=64*(k/64)+k%64:=by omega
  have hq:k/64=0∨k/64=1∨k/64=2∨k/64=3:=by omega
  generalize k%64=r at *;rcases hq with hq|hq|hq|hq<;>rw[hq]at hk<;>subst hk
  ·exact shl_q0 n r hn hr w
  ·exact shl_q1 n r hn hr w
  ·exact shl_q2 n r hn hr w
  ·exact shl_q3 n r hn hr w
theorem shr_any(n k:Nat)(hn:n<W):RT 275 #[U n,B k] (U (vw n k)):=by
 intro w;by_cases h:256≤k
 ·refine(shr_big_raw (l0 n) (l1 n) (l2 n) (l3 n) k h w).mono ?_;rintro e w' ⟨rfl,hb⟩;exact⟨by rw[vw,shr_big_zero n k hn h,U_zero],hb⟩
 ·have hr:k%64<64:=Nat.mod_lt _ (by decide);have hk:k=64*(k/64)+k%64:=by omega
  have hq:k/64=0∨k/64=1∨k/64=2∨k/64=3:=by omega
  generalize k%64=r at *;rcases hq with hq|hq|hq|hq<;>rw[hq]at hk<;>subst hk
  ·exact shr_q0 n r hn hr w
  ·exact shr_q1 n r hn hr w
  ·exact shr_q2 n r hn hr w
  ·exact shr_q3 n r hn hr w
def xm (n:Nat):Nat:=bits4 (l0 n) (l1 n) (l2 n) (l3 n)
theorem zcg(n:Nat)(w:World):Calls prog 214 #[U n] w fun e w'=>e=.returned (.int .i64 (xm n:Nat))∧Below w.heap.size w w':=
 bits_raw (l0 n) (l1 n) (l2 n) (l3 n) (yz n) (yh n) (yn n) (yu n) w
theorem zbn(n j:Nat)(h:n<2^j):xm n≤j:=by
 have key:∀ x i:Nat,x=n/2^(64*i)%M→x≠0→64*i+Lib.bitLen x≤j:=by
  intro x i hx h0;have hle:x≤n/2^(64*i):=by rw[hx];exact Nat.mod_le _ _
  have hij:64*i≤j:=by
   rcases Nat.lt_or_ge j (64*i)with h'|h'
   ·have:n/2^(64*i)=0:=Nat.div_eq_of_lt (Nat.lt_of_lt_of_le h (Nat.pow_le_pow_right (by decide) (by omega)));omega
   ·exact h'
  have hlt:x<2^(j-64*i):=by
   refine Nat.lt_of_le_of_lt hle (Nat.div_lt_of_lt_mul ?_);rw[← Nat.pow_add,show 64*i+(j-64*i)=j by omega];exact h
  have:=Lib.bitLenAux_le 64 x (j-64*i) hlt;unfold Lib.bitLen;omega
 have k0:=key (l0 n) 0 (by unfold l0;simp);have k1:=key (l1 n) 1 (by unfold l1;rw[zau]);have k2:=key (l2 n) 2 (by unfold l2;rw[MM_pow]);have k3:=key (l3 n) 3 (by unfold l3;rw[MMM_pow]);unfold xm bits4;split
 ·split
  ·split
   ·split
    ·omega
    ·rename_i h;have:=k0 h;omega
   ·rename_i h;have:=k1 h;omega
  ·rename_i h;have:=k2 h;omega
 ·rename_i h;have:=k3 h;omega
end Go.Proofs.YthkpgfbjdabflaaGreatDoor
