/- Laid one behind the other: Nv, Cm, Ca. -/
import Derived.Test.YtdeompgdhaomgaaGreatDoorKtNum
import Derived.Laws.Bits64b
import Derived.Laws.Bits64
import Derived.Lib.BitFns
namespace Go.Proofs.YtdeompgdhaomgaaGreatDoor
open Go.RowKit Tryz
set_option linter.unusedVariables false
set_option maxRecDepth 100000
set_option maxHeartbeats 4000000
theorem of_mk(n a b c d:Nat)(h:n=mk a b c d)(ha:a<M)(hb:b<M)(hc:c<M)(hd:d<M):l0 n=a∧l1 n=b∧l2 n=c∧l3 n=d:=by
 subst h;exact⟨l0_mk _ _ _ _ ha,l1_mk _ _ _ _ ha hb,l2_mk _ _ _ _ ha hb hc,l3_mk _ _ _ _ ha hb hc hd⟩
theorem add_parts(n m:Nat)(hn:n<W)(hm:m<W) :
  (l0 ((n+m)%W)=sm (l0 n) (l0 m) 0∧l1 ((n+m)%W)=sm (l1 n) (l1 m) (cy (l0 n) (l0 m) 0) ∧
  l2 ((n+m)%W)=sm (l2 n) (l2 m) (cy (l1 n) (l1 m) (cy (l0 n) (l0 m) 0)) ∧
  l3 ((n+m)%W)=sm (l3 n) (l3 m) (cy (l2 n) (l2 m) (cy (l1 n) (l1 m) (cy (l0 n) (l0 m) 0)))) ∧
  ((0<cy (l3 n) (l3 m) (cy (l2 n) (l2 m) (cy (l1 n) (l1 m) (cy (l0 n) (l0 m) 0))))↔W≤n+m):=by
 have a0:=kr n;have a1:=l1_lt n;have a2:=l2_lt n;have a3:=l3_lt n;have b0:=kr m;have b1:=l1_lt m;have b2:=l2_lt m;have b3:=l3_lt m;have en:=qq n hn;have em:=qq m hm;generalize l0 n=x0 at *;generalize l1 n=x1 at *;generalize l2 n=x2 at *;generalize l3 n=x3,l0 m=y0 at *;generalize l1 m=y1 at *;generalize l2 m=y2 at *;generalize l3 m=y3 at *;have e0:=sm_cy x0 y0 0 a0 b0 (by omega);have c0:=cy_le x0 y0 0;have s0:=sm_lt x0 y0 0;generalize cy x0 y0 0=k0 at *;generalize sm x0 y0 0=t0 at *;have e1:=sm_cy x1 y1 k0 a1 b1 c0;have c1:=cy_le x1 y1 k0;have s1:=sm_lt x1 y1 k0
 generalize cy x1 y1 k0=k1 at *;generalize sm x1 y1 k0=t1 at *;have e2:=sm_cy x2 y2 k1 a2 b2 c1;have c2:=cy_le x2 y2 k1;have s2:=sm_lt x2 y2 k1;generalize cy x2 y2 k1=k2 at *;generalize sm x2 y2 k1=t2 at *;have e3:=sm_cy x3 y3 k2 a3 b3 c2;have c3:=cy_le x3 y3 k2;have s3:=sm_lt x3 y3 k2;generalize cy x3 y3 k2=k3 at *;generalize sm x3 y3 k2=t3 at *;have hlt:=mk_lt t0 t1 t2 t3 s0 s1 s2 s3;have key:n+m=mk t0 t1 t2 t3+W*k3:=by
  rw[← en,← em,W_eq];unfold mk M at *;omega
 refine⟨of_mk _ t0 t1 t2 t3 ?_ s0 s1 s2 s3,?_⟩
 ·rw[key,Nat.add_mul_mod_self_left,Nat.mod_eq_of_lt hlt]
 ·rw[key];have hW:0<W:=by decide
  constructor
  ·intro h;have:k3=1:=by omega
   subst this;omega
  ·intro h;rcases Nat.eq_zero_or_pos k3 with h0|h0
   ·subst h0;omega
   ·exact h0
def cmpN (n m:Nat):Int:=if n<m then -1 else if m<n then 1 else 0
theorem M_pow:M=2^64:=by decide
theorem MM_pow:M*M=2^128:=by decide
theorem MMM_pow:M*M*M=2^192:=by decide
theorem W_pow:W=2^256:=by decide +kernel
theorem bits_or(a b:Nat)(ha:a<M)(hb:b<M):bits .or .u64 (a:Int) (b:Int)=((a ||| b:Nat):Int):=bits_or_u64_nat a b ha hb
def cmp4 (a0 a1 a2 a3 b0 b1 b2 b3:Nat):Int:=
 if a3<b3 then -1 else if b3<a3 then 1 else if a2<b2 then -1 else if b2<a2 then 1 else if a1<b1 then -1 else if b1<a1 then 1 else if a0<b0 then -1 else if b0<a0 then 1 else 0
theorem cmp_raw(a0 a1 a2 a3 b0 b1 b2 b3:Nat):RT 137 #[U4 a0 a1 a2 a3,U4 b0 b1 b2 b3] (.int .i64 (cmp4 a0 a1 a2 a3 b0 b1 b2 b3)):=by
 intro w
 go_enter func137,ntmps137
 go_wp2
 refine wp_loop_rounds 5 ?_;by_cases h3:a3<b3
 ·rw[rounds_succ];go_wp2;go_region;go_wp2;go_ret;exact⟨by rw[cmp4,if_pos h3];rfl,(by repeat(first|exact Below.refl _ _|apply Below.drew|refine Below.alloc ?_ (by simp;try omega) _))⟩
 by_cases k3:b3<a3
 ·rw[rounds_succ];go_wp2;go_region;go_wp2;go_region;go_wp2;go_ret;exact⟨by rw[cmp4,if_neg h3,if_pos k3];rfl,(by repeat(first|exact Below.refl _ _|apply Below.drew|refine Below.alloc ?_ (by simp;try omega) _))⟩
 rw[rounds_succ];go_wp2;go_region;go_wp2;go_region;go_wp2;by_cases h2:a2<b2
 ·rw[rounds_succ];go_wp2;go_region;go_wp2;go_ret;exact⟨by rw[cmp4,if_neg h3,if_neg k3,if_pos h2];rfl,(by repeat(first|exact Below.refl _ _|apply Below.drew|refine Below.alloc ?_ (by simp;try omega) _))⟩
 by_cases k2:b2<a2
 ·rw[rounds_succ];go_wp2;go_region;go_wp2;go_region;go_wp2;go_ret;exact⟨by rw[cmp4,if_neg h3,if_neg k3,if_neg h2,if_pos k2];rfl,(by repeat(first|exact Below.refl _ _|apply Below.drew|refine Below.alloc ?_ (by simp;try omega) _))⟩
 rw[rounds_succ];go_wp2;go_region;go_wp2;go_region;go_wp2;by_cases h1:a1<b1
 ·rw[rounds_succ];go_wp2;go_region;go_wp2;go_ret;exact⟨by rw[cmp4,if_neg h3,if_neg k3,if_neg h2,if_neg k2,if_pos h1];rfl,(by repeat(first|exact Below.refl _ _|apply Below.drew|refine Below.alloc ?_ (by simp;try omega) _))⟩
 by_cases k1:b1<a1
 ·rw[rounds_succ];go_wp2;go_region;go_wp2;go_region;go_wp2;go_ret;exact⟨by rw[cmp4,if_neg h3,if_neg k3,if_neg h2,if_neg k2,if_neg h1,if_pos k1];rfl,(by repeat(first|exact Below.refl _ _|apply Below.drew|refine Below.alloc ?_ (by simp;try omega) _))⟩
 rw[rounds_succ];go_wp2;go_region;go_wp2;go_region;go_wp2;by_cases h0:a0<b0
 ·rw[rounds_succ];go_wp2;go_region;go_wp2;go_ret;exact⟨by rw[cmp4,if_neg h3,if_neg k3,if_neg h2,if_neg k2,if_neg h1,if_neg k1,if_pos h0];rfl,(by repeat(first|exact Below.refl _ _|apply Below.drew|refine Below.alloc ?_ (by simp;try omega) _))⟩
 by_cases k0:b0<a0
 ·rw[rounds_succ];go_wp2;go_region;go_wp2;go_region;go_wp2;go_ret;exact⟨by rw[cmp4,if_neg h3,if_neg k3,if_neg h2,if_neg k2,if_neg h1,if_neg k1,if_neg h0,if_pos k0];rfl,(by repeat(first|exact Below.refl _ _|apply Below.drew|refine Below.alloc ?_ (by simp;try omega) _))⟩
 rw[rounds_succ];go_wp2;go_region;go_wp2;go_region;go_wp2;rw[rounds_succ];go_wp2;go_ret;exact⟨by rw[cmp4,if_neg h3,if_neg k3,if_neg h2,if_neg k2,if_neg h1,if_neg k1,if_neg h0,if_neg k0];rfl,(by repeat(first|exact Below.refl _ _|apply Below.drew|refine Below.alloc ?_ (by simp;try omega) _))⟩
def addW (n m:Nat):Nat:=(n+m)%W
def ovW (n m:Nat):Bool:=decide (W≤n+m)
theorem W_pos:0<W:=by decide
theorem bne_pos(k:Nat):((k:Int) != 0)=decide (0<k):=by
 rw[Bool.eq_iff_iff];simp;omega
theorem cmp4_eq(n m:Nat)(hn:n<W)(hm:m<W):cmp4 (l0 n) (l1 n) (l2 n) (l3 n) (l0 m) (l1 m) (l2 m) (l3 m)=cmpN n m:=by
 have a0:=kr n;have a1:=l1_lt n;have a2:=l2_lt n;have a3:=l3_lt n;have b0:=kr m;have b1:=l1_lt m;have b2:=l2_lt m;have b3:=l3_lt m;have en:=qq n hn;have em:=qq m hm;generalize l0 n=x0 at *;generalize l1 n=x1 at *;generalize l2 n=x2 at *;generalize l3 n=x3,l0 m=y0 at *;generalize l1 m=y1 at *;generalize l2 m=y2 at *;generalize l3 m=y3 at *;have hlt:n<m↔(x3<y3∨x3=y3∧(x2<y2∨x2=y2∧(x1<y1∨x1=y1∧x0<y0))):=by
  rw[← en,← em];unfold mk M at *;omega
 have hgt:m<n↔(y3<x3∨y3=x3∧(y2<x2∨y2=x2∧(y1<x1∨y1=x1∧y0<x0))):=by
  rw[← en,← em];unfold mk M at *;omega
 unfold cmp4 cmpN;simp only[hlt,hgt];clear hlt hgt en em;by_cases h3:x3<y3
 ·rw[if_pos h3,if_pos (by omega)]
 by_cases k3:y3<x3
 ·rw[if_neg h3,if_pos k3,if_neg (by omega),if_pos (by omega)]
 by_cases h2:x2<y2
 ·rw[if_neg h3,if_neg k3,if_pos h2,if_pos (by omega)]
 by_cases k2:y2<x2
 ·rw[if_neg h3,if_neg k3,if_neg h2,if_pos k2,if_neg (by omega),if_pos (by omega)]
 by_cases h1:x1<y1
 ·rw[if_neg h3,if_neg k3,if_neg h2,if_neg k2,if_pos h1,if_pos (by omega)]
 by_cases k1:y1<x1
 ·rw[if_neg h3,if_neg k3,if_neg h2,if_neg k2,if_neg h1,if_pos k1,if_neg (by omega),if_pos (by omega)]
 by_cases h0:x0<y0
 ·rw[if_neg h3,if_neg k3,if_neg h2,if_neg k2,if_neg h1,if_neg k1,if_pos h0,if_pos (by omega)]
 by_cases k0:y0<x0
 ·rw[if_neg h3,if_neg k3,if_neg h2,if_neg k2,if_neg h1,if_neg k1,if_neg h0,if_pos k0,if_neg (by omega),if_pos (by omega)]
 rw[if_neg h3,if_neg k3,if_neg h2,if_neg k2,if_neg h1,if_neg k1,if_neg h0,if_neg k0,if_neg (by omega),if_neg (by omega)]
theorem of_parts(a:Nat)(h:a<M):l0 a=a∧l1 a=0∧l2 a=0∧l3 a=0:=by
 unfold l0 l1 l2 l3 M at *;omega
theorem cmp_any(n m:Nat)(hn:n<W)(hm:m<W):RT 137 #[U n,U m] (.int .i64 (cmpN n m)):=by
 intro w;refine(cmp_raw (l0 n) (l1 n) (l2 n) (l3 n) (l0 m) (l1 m) (l2 m) (l3 m) w).mono ?_;rintro e w' ⟨rfl,hb⟩;exact⟨by rw[cmp4_eq n m hn hm],hb⟩
theorem of_any(a:Nat)(h:a<M):RT 121 #[B a] (U a):=by
 intro w;refine(of_raw a w).mono ?_;rintro e w' ⟨rfl,hb⟩;obtain⟨e0,e1,e2,e3⟩:=of_parts a h;exact⟨by unfold U;rw[e0,e1,e2,e3];rfl,hb⟩
end Go.Proofs.YtdeompgdhaomgaaGreatDoor
