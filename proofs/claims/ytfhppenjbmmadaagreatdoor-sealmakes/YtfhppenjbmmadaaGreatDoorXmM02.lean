import Derived.Test.YtfhppenjbmmadaaGreatDoorXmM01
import Derived.Test.YtfhppenjbmmadaaGreatDoorXmLn
namespace Go.Proofs.YtfhppenjbmmadaaGreatDoor
set_option linter.unusedVariables false
set_option maxHeartbeats 8000000
section
open Go.RowKit
def bits4 (a0 a1 a2 a3:Nat):Nat:=
 if a3=0 then if a2=0 then if a1=0 then if a0=0 then 0 else Lib.bitLen a0 else 64+Lib.bitLen a1 else 128+Lib.bitLen a2 else 192+Lib.bitLen a3
theorem bitLen_le64(x:Nat)(h:x<18446744073709551616):Lib.bitLen x≤64:=Lib.bitLenAux_le 64 x 64 h
theorem bits_raw(a0 a1 a2 a3:Nat)(g0:a0<18446744073709551616)(g1:a1<18446744073709551616)(g2:a2<18446744073709551616)(g3:a3<18446744073709551616)(w:World):Calls Tryz.prog 135 #[U4 a0 a1 a2 a3] w fun e w'=>e=.returned (.int .i64 (bits4 a0 a1 a2 a3:Nat))∧Below w.heap.size w w':=by
 have b0:=bitLen_le64 a0 g0
 have b1:=bitLen_le64 a1 g1
 have b2:=bitLen_le64 a2 g2
 have b3:=bitLen_le64 a3 g3
 go_enter Tryz.func135,Tryz.ntmps135
 go_wp2
 refine wp_loop_rounds 5 ?_
 by_cases h3:a3=0
 case neg=>
  have k3:((a3:Int) != 0)=true:=by rw[bne_iff_ne];omega
  rw[rounds_succ];go_wp2_with (go_at_call 120;refine (len64_any a3 g3 _).mono ?_;rintro e w1 ⟨rfl,rfl⟩)
  go_ret
  exact ⟨by rw[bits4,if_neg h3];simp;done,(by repeat (first | exact Below.refl _ _ | apply Below.drew | refine Below.alloc ?_ (by simp;try omega) _))⟩
 have k3:((a3:Int) != 0)=false:=by rw[h3];rfl
 rw[rounds_succ];go_wp2
 by_cases h2:a2=0
 case neg=>
  have k2:((a2:Int) != 0)=true:=by rw[bne_iff_ne];omega
  rw[rounds_succ];go_wp2_with (go_at_call 120;refine (len64_any a2 g2 _).mono ?_;rintro e w1 ⟨rfl,rfl⟩)
  go_ret
  exact ⟨by rw[bits4,if_pos h3,if_neg h2];simp;done,(by repeat (first | exact Below.refl _ _ | apply Below.drew | refine Below.alloc ?_ (by simp;try omega) _))⟩
 have k2:((a2:Int) != 0)=false:=by rw[h2];rfl
 rw[rounds_succ];go_wp2
 by_cases h1:a1=0
 case neg=>
  have k1:((a1:Int) != 0)=true:=by rw[bne_iff_ne];omega
  rw[rounds_succ];go_wp2_with (go_at_call 120;refine (len64_any a1 g1 _).mono ?_;rintro e w1 ⟨rfl,rfl⟩)
  go_ret
  exact ⟨by rw[bits4,if_pos h3,if_pos h2,if_neg h1];simp;done,(by repeat (first | exact Below.refl _ _ | apply Below.drew | refine Below.alloc ?_ (by simp;try omega) _))⟩
 have k1:((a1:Int) != 0)=false:=by rw[h1];rfl
 rw[rounds_succ];go_wp2
 by_cases h0:a0=0
 case neg=>
  have k0:((a0:Int) != 0)=true:=by rw[bne_iff_ne];omega
  rw[rounds_succ];go_wp2_with (go_at_call 120;refine (len64_any a0 g0 _).mono ?_;rintro e w1 ⟨rfl,rfl⟩)
  go_ret
  exact ⟨by rw[bits4,if_pos h3,if_pos h2,if_pos h1,if_neg h0];simp;done,(by repeat (first | exact Below.refl _ _ | apply Below.drew | refine Below.alloc ?_ (by simp;try omega) _))⟩
 have k0:((a0:Int) != 0)=false:=by rw[h0];rfl
 rw[rounds_succ];go_wp2
 rw[rounds_succ];go_wp2;go_ret;exact ⟨by rw[bits4,if_pos h3,if_pos h2,if_pos h1,if_pos h0];rfl,(by repeat (first | exact Below.refl _ _ | apply Below.drew | refine Below.alloc ?_ (by simp;try omega) _))⟩
theorem rbits_raw(a0 a1 a2 a3:Nat)(g0:a0<18446744073709551616)(g1:a1<18446744073709551616)(g2:a2<18446744073709551616)(g3:a3<18446744073709551616)(w:World):Calls Tryz.prog 79 #[U4 a0 a1 a2 a3] w fun e w'=>e=.returned (.int .i64 (bits4 a0 a1 a2 a3:Nat))∧Below w.heap.size w w':=by
 have b0:=bitLen_le64 a0 g0
 have b1:=bitLen_le64 a1 g1
 have b2:=bitLen_le64 a2 g2
 have b3:=bitLen_le64 a3 g3
 go_enter Tryz.func79,Tryz.ntmps79
 go_wp2
 refine wp_loop_rounds 5 ?_
 by_cases h3:a3=0
 case neg=>
  have k3:((a3:Int) != 0)=true:=by rw[bne_iff_ne];omega
  rw[rounds_succ];go_wp2_with (go_at_call 120;refine (len64_any a3 g3 _).mono ?_;rintro e w1 ⟨rfl,rfl⟩)
  go_ret
  exact ⟨by rw[bits4,if_neg h3];simp;done,(by repeat (first | exact Below.refl _ _ | apply Below.drew | refine Below.alloc ?_ (by simp;try omega) _))⟩
 have k3:((a3:Int) != 0)=false:=by rw[h3];rfl
 rw[rounds_succ];go_wp2
 by_cases h2:a2=0
 case neg=>
  have k2:((a2:Int) != 0)=true:=by rw[bne_iff_ne];omega
  rw[rounds_succ];go_wp2_with (go_at_call 120;refine (len64_any a2 g2 _).mono ?_;rintro e w1 ⟨rfl,rfl⟩)
  go_ret
  exact ⟨by rw[bits4,if_pos h3,if_neg h2];simp;done,(by repeat (first | exact Below.refl _ _ | apply Below.drew | refine Below.alloc ?_ (by simp;try omega) _))⟩
 have k2:((a2:Int) != 0)=false:=by rw[h2];rfl
 rw[rounds_succ];go_wp2
 by_cases h1:a1=0
 case neg=>
  have k1:((a1:Int) != 0)=true:=by rw[bne_iff_ne];omega
  rw[rounds_succ];go_wp2_with (go_at_call 120;refine (len64_any a1 g1 _).mono ?_;rintro e w1 ⟨rfl,rfl⟩)
  go_ret
  exact ⟨by rw[bits4,if_pos h3,if_pos h2,if_neg h1];simp;done,(by repeat (first | exact Below.refl _ _ | apply Below.drew | refine Below.alloc ?_ (by simp;try omega) _))⟩
 have k1:((a1:Int) != 0)=false:=by rw[h1];rfl
 rw[rounds_succ];go_wp2
 by_cases h0:a0=0
 case neg=>
  have k0:((a0:Int) != 0)=true:=by rw[bne_iff_ne];omega
  rw[rounds_succ];go_wp2_with (go_at_call 120;refine (len64_any a0 g0 _).mono ?_;rintro e w1 ⟨rfl,rfl⟩)
  go_ret
  exact ⟨by rw[bits4,if_pos h3,if_pos h2,if_pos h1,if_neg h0];simp;done,(by repeat (first | exact Below.refl _ _ | apply Below.drew | refine Below.alloc ?_ (by simp;try omega) _))⟩
 have k0:((a0:Int) != 0)=false:=by rw[h0];rfl
 rw[rounds_succ];go_wp2
 rw[rounds_succ];go_wp2;go_ret;exact ⟨by rw[bits4,if_pos h3,if_pos h2,if_pos h1,if_pos h0];rfl,(by repeat (first | exact Below.refl _ _ | apply Below.drew | refine Below.alloc ?_ (by simp;try omega) _))⟩
end
section
open Go.RowKit
theorem run_add(x y c:Nat)(hx:x<M)(hy:y<M)(hc:c≤1)(w:World) :
  (callFunc 91 #[.int .u64 x,.int .u64 y,.int .u64 c]).run Tryz.prog w=.ok (.value (.tuple #[B (sm x y c),B (cy x y c)])) w:=by
 rw[run_callFunc_extern Tryz.func91 (by kernel_rfl) (by kernel_rfl) (by kernel_rfl) (e:=add64Entry) (by kernel_rfl),run_add64 x y c (by omega) (by omega) (by omega) (by omega)]
 simp only[Result.andThen,B,sm,← cy_eq x y c hx hy hc,M_eq]
 congr 5
theorem run_add0(x y:Nat)(hx:x<M)(hy:y<M)(w:World) :
  (callFunc 91 #[.int .u64 x,.int .u64 y,.int .u64 0]).run Tryz.prog w=.ok (.value (.tuple #[B (sm x y 0),B (cy x y 0)])) w:=run_add x y 0 hx hy (by omega) w
theorem run_sub(x y c:Nat)(hc:c≤1)(w:World) :
  (callFunc 63 #[.int .u64 x,.int .u64 y,.int .u64 c]).run Tryz.prog w=.ok (.value (.tuple #[B (df x y c),B (bo x y c)])) w:=by
 rw[run_callFunc_extern Tryz.func63 (by kernel_rfl) (by kernel_rfl) (by kernel_rfl) (e:=(Extern.MathBitsCarry.rows.getLast (by decide)).2) (by kernel_rfl)]
 have:c=0∨c=1:=by omega
 rcases this with rfl | rfl<;>rfl
theorem run_sub0(x y:Nat)(w:World) :
  (callFunc 63 #[.int .u64 x,.int .u64 y,.int .u64 0]).run Tryz.prog w=.ok (.value (.tuple #[B (df x y 0),B (bo x y 0)])) w:=run_sub x y 0 (by omega) w
def addW (n m:Nat):Nat:=(n+m)%W
def ovW (n m:Nat):Bool:=decide (W≤n+m)
def subW (n m:Nat):Nat:=(n+W-m)%W
def unW (n m:Nat):Bool:=decide (n<m)
theorem W_pos:0<W:=by decide
theorem addW_lt(n m:Nat):addW n m<W:=Nat.mod_lt _ W_pos
theorem subW_lt(n m:Nat):subW n m<W:=Nat.mod_lt _ W_pos
theorem bne_pos(k:Nat):((k:Int) != 0)=decide (0<k):=by
 rw[Bool.eq_iff_iff];simp;omega
theorem cmp4_eq(n m:Nat)(hn:n<W)(hm:m<W):cmp4 (l0 n) (l1 n) (l2 n) (l3 n) (l0 m) (l1 m) (l2 m) (l3 m)=cmpN n m:=by
 have a0:=l0_lt n;have a1:=l1_lt n;have a2:=l2_lt n;have a3:=l3_lt n
 have b0:=l0_lt m;have b1:=l1_lt m;have b2:=l2_lt m;have b3:=l3_lt m
 have en:=mk_parts n hn
 have em:=mk_parts m hm
 generalize l0 n=x0 at *;generalize l1 n=x1 at *;generalize l2 n=x2 at *;generalize l3 n=x3 at *
 generalize l0 m=y0 at *;generalize l1 m=y1 at *;generalize l2 m=y2 at *;generalize l3 m=y3 at *
 have hlt:n<m↔(x3<y3∨x3=y3∧(x2<y2∨x2=y2∧(x1<y1∨x1=y1∧x0<y0))):=by
  rw[← en,← em];unfold mk M at *;omega
 have hgt:m<n↔(y3<x3∨y3=x3∧(y2<x2∨y2=x2∧(y1<x1∨y1=x1∧y0<x0))):=by
  rw[← en,← em];unfold mk M at *;omega
 unfold cmp4 cmpN
 simp only[hlt,hgt]
 clear hlt hgt en em
 by_cases h3:x3<y3
 ·rw[if_pos h3,if_pos (by omega)]
 by_cases k3:y3<x3
 ·rw[if_neg h3,if_pos k3,if_neg (by omega),if_pos (by omega)]
 by_cases h2:x2<y2
 ·rw[if_neg h3,if_neg k3,if_pos h2,if_pos (by omega)]
 by_cases k2:y2<x2
 ·rw[if_neg h3,if_neg k3,if_neg h2,if_pos k2,if_neg (by omega),if_pos (by omega)]
 by_cases h1:x1<y1
 ·rw[if_neg h3,if_neg k3,if_neg h2,if_neg k2,if_pos h1,if_pos (by omega)]
 by_cases k1:y1<x1
 ·rw[if_neg h3,if_neg k3,if_neg h2,if_neg k2,if_neg h1,if_pos k1,if_neg (by omega),if_pos (by omega)]
 by_cases h0:x0<y0
 ·rw[if_neg h3,if_neg k3,if_neg h2,if_neg k2,if_neg h1,if_neg k1,if_pos h0,if_pos (by omega)]
 by_cases k0:y0<x0
 ·rw[if_neg h3,if_neg k3,if_neg h2,if_neg k2,if_neg h1,if_neg k1,if_neg h0,if_pos k0,if_neg (by omega),if_pos (by omega)]
 rw[if_neg h3,if_neg k3,if_neg h2,if_neg k2,if_neg h1,if_neg k1,if_neg h0,if_neg k0,if_neg (by omega),if_neg (by omega)]
theorem of_parts(a:Nat)(h:a<M):l0 a=a∧l1 a=0∧l2 a=0∧l3 a=0:=by
 unfold l0 l1 l2 l3 M at *;omega
theorem add_any(n m:Nat)(hn:n<W)(hm:m<W)(w:World):Calls Tryz.prog 124 #[U n,U m] w fun e w'=>e=.returned (.tuple #[U (addW n m),.bool (ovW n m)])∧Below w.heap.size w w':=by
 refine (add_raw sm cy cy_le run_add run_add0 (l0 n) (l1 n) (l2 n) (l3 n) (l0 m) (l1 m) (l2 m) (l3 m) (l0_lt n) (l0_lt m) (l1_lt n) (l1_lt m) (l2_lt n) (l2_lt m) (l3_lt n) (l3_lt m) w).mono ?_
 rintro e w' ⟨rfl,hb⟩
 obtain ⟨⟨e0,e1,e2,e3⟩,ec⟩:=add_parts n m hn hm
 exact ⟨by rw[bne_pos,decide_eq_decide.2 ec];unfold U addW ovW;rw[e0,e1,e2,e3],hb⟩
theorem radd_any(n m:Nat)(hn:n<W)(hm:m<W)(w:World):Calls Tryz.prog 76 #[U n,U m] w fun e w'=>e=.returned (.tuple #[U (addW n m),.bool (ovW n m)])∧Below w.heap.size w w':=by
 refine (radd_raw sm cy cy_le run_add run_add0 (l0 n) (l1 n) (l2 n) (l3 n) (l0 m) (l1 m) (l2 m) (l3 m) (l0_lt n) (l0_lt m) (l1_lt n) (l1_lt m) (l2_lt n) (l2_lt m) (l3_lt n) (l3_lt m) w).mono ?_
 rintro e w' ⟨rfl,hb⟩
 obtain ⟨⟨e0,e1,e2,e3⟩,ec⟩:=add_parts n m hn hm
 exact ⟨by rw[decide_eq_decide.2 ec];unfold U addW ovW;rw[e0,e1,e2,e3],hb⟩
theorem sub_any(n m:Nat)(hn:n<W)(hm:m<W)(w:World):Calls Tryz.prog 106 #[U n,U m] w fun e w'=>e=.returned (.tuple #[U (subW n m),.bool (unW n m)])∧Below w.heap.size w w':=by
 refine (sub_raw df bo bo_le run_sub run_sub0 (l0 n) (l1 n) (l2 n) (l3 n) (l0 m) (l1 m) (l2 m) (l3 m) w).mono ?_
 rintro e w' ⟨rfl,hb⟩
 obtain ⟨⟨e0,e1,e2,e3⟩,ec⟩:=sub_parts n m hn hm
 exact ⟨by rw[bne_pos,decide_eq_decide.2 ec];unfold U subW unW;rw[e0,e1,e2,e3],hb⟩
theorem rsub_any(n m:Nat)(hn:n<W)(hm:m<W)(w:World):Calls Tryz.prog 27 #[U n,U m] w fun e w'=>e=.returned (.tuple #[U (subW n m),.bool (unW n m)])∧Below w.heap.size w w':=by
 refine (rsub_raw df bo bo_le run_sub run_sub0 (l0 n) (l1 n) (l2 n) (l3 n) (l0 m) (l1 m) (l2 m) (l3 m) w).mono ?_
 rintro e w' ⟨rfl,hb⟩
 obtain ⟨⟨e0,e1,e2,e3⟩,ec⟩:=sub_parts n m hn hm
 exact ⟨by rw[decide_eq_decide.2 ec];unfold U subW unW;rw[e0,e1,e2,e3],hb⟩
theorem cmp_any(n m:Nat)(hn:n<W)(hm:m<W)(w:World):Calls Tryz.prog 93 #[U n,U m] w fun e w'=>e=.returned (.int .i64 (cmpN n m))∧Below w.heap.size w w':=by
 refine (cmp_raw (l0 n) (l1 n) (l2 n) (l3 n) (l0 m) (l1 m) (l2 m) (l3 m) w).mono ?_
 rintro e w' ⟨rfl,hb⟩
 exact ⟨by rw[cmp4_eq n m hn hm],hb⟩
theorem rcmp_any(n m:Nat)(hn:n<W)(hm:m<W)(w:World):Calls Tryz.prog 42 #[U n,U m] w fun e w'=>e=.returned (.int .i64 (cmpN n m))∧Below w.heap.size w w':=by
 refine (rcmp_raw (l0 n) (l1 n) (l2 n) (l3 n) (l0 m) (l1 m) (l2 m) (l3 m) w).mono ?_
 rintro e w' ⟨rfl,hb⟩
 exact ⟨by rw[cmp4_eq n m hn hm],hb⟩
theorem or_any(n m:Nat)(w:World):Calls Tryz.prog 165 #[U n,U m] w fun e w'=>e=.returned (U (n ||| m))∧Below w.heap.size w w':=by
 refine (or_raw (l0 n) (l1 n) (l2 n) (l3 n) (l0 m) (l1 m) (l2 m) (l3 m) w).mono ?_
 rintro e w' ⟨rfl,hb⟩
 obtain ⟨e0,e1,e2,e3⟩:=or_parts n m
 exact ⟨by rw[bits_or _ _ (l0_lt n) (l0_lt m),bits_or _ _ (l1_lt n) (l1_lt m),bits_or _ _ (l2_lt n) (l2_lt m),bits_or _ _ (l3_lt n) (l3_lt m)];unfold U;rw[e0,e1,e2,e3],hb⟩
theorem of_any(a:Nat)(h:a<M)(w:World):Calls Tryz.prog 66 #[B a] w fun e w'=>e=.returned (U a)∧Below w.heap.size w w':=by
 refine (of_raw a w).mono ?_
 rintro e w' ⟨rfl,hb⟩
 obtain ⟨e0,e1,e2,e3⟩:=of_parts a h
 exact ⟨by unfold U;rw[e0,e1,e2,e3];rfl,hb⟩
end
section
open Go.RowKit
def shlW (n k:Nat):Nat:=n*2^k%W
def shrW (n k:Nat):Nat:=n/2^k
theorem shlW_lt(n k:Nat):shlW n k<W:=Nat.mod_lt _ W_pos
theorem shrW_lt(n k:Nat)(h:n<W):shrW n k<W:=Nat.lt_of_le_of_lt (Nat.div_le_self _ _) h
theorem U_zero:U 0=I4 0 0 0 0:=rfl
theorem shl_big_zero(n k:Nat)(h:256≤k):n*2^k%W=0:=by
 rw[W_pow,show k=256+(k-256) by omega,Nat.pow_add,Nat.mul_left_comm,Nat.mul_mod_right]
theorem shr_big_zero(n k:Nat)(hn:n<W)(h:256≤k):n/2^k=0:=by
 rw[W_pow] at hn
 exact Nat.div_eq_of_lt (Nat.lt_of_lt_of_le hn (Nat.pow_le_pow_right (by decide) h))
theorem pow_q(q r:Nat):2^(64*q+r)=2^r*M^q:=by
 rw[Nat.add_comm,Nat.pow_add,Nat.pow_mul,M_pow]
theorem shl_q0(n r:Nat)(hn:n<W)(hr:r<64)(w:World):Calls Tryz.prog 159 #[U n,B (64*0+r)] w fun e w'=>e=.returned (U (n*2^(64*0+r)%W))∧Below w.heap.size w w':=by
 refine (shl_0_raw (l0 n) (l1 n) (l2 n) (l3 n) (64*0+r) r (by omega) (by omega) (by omega) hr w).mono ?_
 rintro e w' ⟨rfl,hb⟩
 have b0:l0 n*2^r%M<M:=Nat.mod_lt _ (by decide)
 have b1:=(or_up (l1 n) (l0 n) r (l1_lt n) (l0_lt n) hr).2
 have b2:=(or_up (l2 n) (l1 n) r (l2_lt n) (l1_lt n) hr).2
 have b3:=(or_up (l3 n) (l2 n) r (l3_lt n) (l2_lt n) hr).2
 have e:n*2^(64*0+r)%W=mk (l0 n*2^r%M) (l1 n*2^r%M+l0 n/2^(64-r)) (l2 n*2^r%M+l1 n/2^(64-r)) (l3 n*2^r%M+l2 n/2^(64-r)):=by
  rw[pow_q,← Nat.mul_assoc]
  rw[Nat.pow_zero,Nat.mul_one]
  rw[shl_key n r hn hr,mk_mod _ _ _ _ _ b0 b1 b2 b3]
 obtain ⟨e0,e1,e2,e3⟩:=of_mk _ _ _ _ _ e b0 b1 b2 b3
 exact ⟨by unfold U;rw[e0,e1,e2,e3,wrap_mul,(or_up _ _ r (l1_lt n) (l0_lt n) hr).1,(or_up _ _ r (l2_lt n) (l1_lt n) hr).1,(or_up _ _ r (l3_lt n) (l2_lt n) hr).1],hb⟩
theorem shl_q1(n r:Nat)(hn:n<W)(hr:r<64)(w:World):Calls Tryz.prog 159 #[U n,B (64*1+r)] w fun e w'=>e=.returned (U (n*2^(64*1+r)%W))∧Below w.heap.size w w':=by
 refine (shl_1_raw (l0 n) (l1 n) (l2 n) (l3 n) (64*1+r) r (by omega) (by omega) (by omega) hr w).mono ?_
 rintro e w' ⟨rfl,hb⟩
 have b0:l0 n*2^r%M<M:=Nat.mod_lt _ (by decide)
 have b1:=(or_up (l1 n) (l0 n) r (l1_lt n) (l0_lt n) hr).2
 have b2:=(or_up (l2 n) (l1 n) r (l2_lt n) (l1_lt n) hr).2
 have b3:=(or_up (l3 n) (l2 n) r (l3_lt n) (l2_lt n) hr).2
 have e:n*2^(64*1+r)%W=mk 0 (l0 n*2^r%M) (l1 n*2^r%M+l0 n/2^(64-r)) (l2 n*2^r%M+l1 n/2^(64-r)):=by
  rw[pow_q,← Nat.mul_assoc]
  rw[Nat.pow_one]
  rw[shl_key n r hn hr,mk_up,mk_mod _ _ _ _ _ (by decide) b0 b1 b2]
 obtain ⟨e0,e1,e2,e3⟩:=of_mk _ _ _ _ _ e (by decide) b0 b1 b2
 exact ⟨by unfold U;rw[e0,e1,e2,e3,wrap_mul,(or_up _ _ r (l1_lt n) (l0_lt n) hr).1,(or_up _ _ r (l2_lt n) (l1_lt n) hr).1];rfl,hb⟩
theorem shl_q2(n r:Nat)(hn:n<W)(hr:r<64)(w:World):Calls Tryz.prog 159 #[U n,B (64*2+r)] w fun e w'=>e=.returned (U (n*2^(64*2+r)%W))∧Below w.heap.size w w':=by
 refine (shl_2_raw (l0 n) (l1 n) (l2 n) (l3 n) (64*2+r) r (by omega) (by omega) (by omega) hr w).mono ?_
 rintro e w' ⟨rfl,hb⟩
 have b0:l0 n*2^r%M<M:=Nat.mod_lt _ (by decide)
 have b1:=(or_up (l1 n) (l0 n) r (l1_lt n) (l0_lt n) hr).2
 have b2:=(or_up (l2 n) (l1 n) r (l2_lt n) (l1_lt n) hr).2
 have b3:=(or_up (l3 n) (l2 n) r (l3_lt n) (l2_lt n) hr).2
 have e:n*2^(64*2+r)%W=mk 0 0 (l0 n*2^r%M) (l1 n*2^r%M+l0 n/2^(64-r)):=by
  rw[pow_q,← Nat.mul_assoc]
  rw[show M^2=M*M from by decide,← Nat.mul_assoc]
  rw[shl_key n r hn hr,mk_up,mk_up,mk_mod _ _ _ _ _ (by decide) (by decide) b0 b1]
 obtain ⟨e0,e1,e2,e3⟩:=of_mk _ _ _ _ _ e (by decide) (by decide) b0 b1
 exact ⟨by unfold U;rw[e0,e1,e2,e3,wrap_mul,(or_up _ _ r (l1_lt n) (l0_lt n) hr).1];rfl,hb⟩
theorem shl_q3(n r:Nat)(hn:n<W)(hr:r<64)(w:World):Calls Tryz.prog 159 #[U n,B (64*3+r)] w fun e w'=>e=.returned (U (n*2^(64*3+r)%W))∧Below w.heap.size w w':=by
 refine (shl_3_raw (l0 n) (l1 n) (l2 n) (l3 n) (64*3+r) r (by omega) (by omega) (by omega) hr w).mono ?_
 rintro e w' ⟨rfl,hb⟩
 have b0:l0 n*2^r%M<M:=Nat.mod_lt _ (by decide)
 have b1:=(or_up (l1 n) (l0 n) r (l1_lt n) (l0_lt n) hr).2
 have b2:=(or_up (l2 n) (l1 n) r (l2_lt n) (l1_lt n) hr).2
 have b3:=(or_up (l3 n) (l2 n) r (l3_lt n) (l2_lt n) hr).2
 have e:n*2^(64*3+r)%W=mk 0 0 0 (l0 n*2^r%M):=by
  rw[pow_q,← Nat.mul_assoc]
  rw[show M^3=M*M*M from by decide +kernel,← Nat.mul_assoc,← Nat.mul_assoc]
  rw[shl_key n r hn hr,mk_up,mk_up,mk_up,mk_mod _ _ _ _ _ (by decide) (by decide) (by decide) b0]
 obtain ⟨e0,e1,e2,e3⟩:=of_mk _ _ _ _ _ e (by decide) (by decide) (by decide) b0
 exact ⟨by unfold U;rw[e0,e1,e2,e3,wrap_mul];rfl,hb⟩
theorem shr_q0(n r:Nat)(hn:n<W)(hr:r<64)(w:World):Calls Tryz.prog 122 #[U n,B (64*0+r)] w fun e w'=>e=.returned (U (n/2^(64*0+r)))∧Below w.heap.size w w':=by
 refine (shr_0_raw (l0 n) (l1 n) (l2 n) (l3 n) (64*0+r) r (by omega) (by omega) (by omega) hr w).mono ?_
 rintro e w' ⟨rfl,hb⟩
 have b0:=(or_down (l0 n) (l1 n) r (l0_lt n) (l1_lt n) hr).2
 have b1:=(or_down (l1 n) (l2 n) r (l1_lt n) (l2_lt n) hr).2
 have b2:=(or_down (l2 n) (l3 n) r (l2_lt n) (l3_lt n) hr).2
 have b3:l3 n/2^r<M:=Nat.lt_of_le_of_lt (Nat.div_le_self _ _) (l3_lt n)
 have e:n/2^(64*0+r)=mk (l0 n/2^r+2^(64-r)*(l1 n%2^r)) (l1 n/2^r+2^(64-r)*(l2 n%2^r)) (l2 n/2^r+2^(64-r)*(l3 n%2^r)) (l3 n/2^r):=by
  rw[pow_q,← Nat.div_div_eq_div_mul,Nat.pow_zero,Nat.div_one,shr_key n r hn hr]
 obtain ⟨e0,e1,e2,e3⟩:=of_mk _ _ _ _ _ e b0 b1 b2 b3
 exact ⟨by unfold U;rw[e0,e1,e2,e3,(or_down _ _ r (l0_lt n) (l1_lt n) hr).1,(or_down _ _ r (l1_lt n) (l2_lt n) hr).1,(or_down _ _ r (l2_lt n) (l3_lt n) hr).1,div_pow],hb⟩
theorem shr_q1(n r:Nat)(hn:n<W)(hr:r<64)(w:World):Calls Tryz.prog 122 #[U n,B (64*1+r)] w fun e w'=>e=.returned (U (n/2^(64*1+r)))∧Below w.heap.size w w':=by
 refine (shr_1_raw (l0 n) (l1 n) (l2 n) (l3 n) (64*1+r) r (by omega) (by omega) (by omega) hr w).mono ?_
 rintro e w' ⟨rfl,hb⟩
 have b0:=(or_down (l0 n) (l1 n) r (l0_lt n) (l1_lt n) hr).2
 have b1:=(or_down (l1 n) (l2 n) r (l1_lt n) (l2_lt n) hr).2
 have b2:=(or_down (l2 n) (l3 n) r (l2_lt n) (l3_lt n) hr).2
 have b3:l3 n/2^r<M:=Nat.lt_of_le_of_lt (Nat.div_le_self _ _) (l3_lt n)
 have e:n/2^(64*1+r)=mk (l1 n/2^r+2^(64-r)*(l2 n%2^r)) (l2 n/2^r+2^(64-r)*(l3 n%2^r)) (l3 n/2^r) 0:=by
  rw[pow_q,← Nat.div_div_eq_div_mul,Nat.pow_one,shr_key n r hn hr,mk_down _ _ _ _ b0]
 obtain ⟨e0,e1,e2,e3⟩:=of_mk _ _ _ _ _ e b1 b2 b3 (by decide)
 exact ⟨by unfold U;rw[e0,e1,e2,e3,(or_down _ _ r (l1_lt n) (l2_lt n) hr).1,(or_down _ _ r (l2_lt n) (l3_lt n) hr).1,div_pow];rfl,hb⟩
theorem shr_q2(n r:Nat)(hn:n<W)(hr:r<64)(w:World):Calls Tryz.prog 122 #[U n,B (64*2+r)] w fun e w'=>e=.returned (U (n/2^(64*2+r)))∧Below w.heap.size w w':=by
 refine (shr_2_raw (l0 n) (l1 n) (l2 n) (l3 n) (64*2+r) r (by omega) (by omega) (by omega) hr w).mono ?_
 rintro e w' ⟨rfl,hb⟩
 have b0:=(or_down (l0 n) (l1 n) r (l0_lt n) (l1_lt n) hr).2
 have b1:=(or_down (l1 n) (l2 n) r (l1_lt n) (l2_lt n) hr).2
 have b2:=(or_down (l2 n) (l3 n) r (l2_lt n) (l3_lt n) hr).2
 have b3:l3 n/2^r<M:=Nat.lt_of_le_of_lt (Nat.div_le_self _ _) (l3_lt n)
 have e:n/2^(64*2+r)=mk (l2 n/2^r+2^(64-r)*(l3 n%2^r)) (l3 n/2^r) 0 0:=by
  rw[pow_q,← Nat.div_div_eq_div_mul,show M^2=M*M from by decide,← Nat.div_div_eq_div_mul,shr_key n r hn hr,mk_down _ _ _ _ b0,mk_down _ _ _ _ b1]
 obtain ⟨e0,e1,e2,e3⟩:=of_mk _ _ _ _ _ e b2 b3 (by decide) (by decide)
 exact ⟨by unfold U;rw[e0,e1,e2,e3,(or_down _ _ r (l2_lt n) (l3_lt n) hr).1,div_pow];rfl,hb⟩
theorem shr_q3(n r:Nat)(hn:n<W)(hr:r<64)(w:World):Calls Tryz.prog 122 #[U n,B (64*3+r)] w fun e w'=>e=.returned (U (n/2^(64*3+r)))∧Below w.heap.size w w':=by
 refine (shr_3_raw (l0 n) (l1 n) (l2 n) (l3 n) (64*3+r) r (by omega) (by omega) (by omega) hr w).mono ?_
 rintro e w' ⟨rfl,hb⟩
 have b0:=(or_down (l0 n) (l1 n) r (l0_lt n) (l1_lt n) hr).2
 have b1:=(or_down (l1 n) (l2 n) r (l1_lt n) (l2_lt n) hr).2
 have b2:=(or_down (l2 n) (l3 n) r (l2_lt n) (l3_lt n) hr).2
 have b3:l3 n/2^r<M:=Nat.lt_of_le_of_lt (Nat.div_le_self _ _) (l3_lt n)
 have e:n/2^(64*3+r)=mk (l3 n/2^r) 0 0 0:=by
  rw[pow_q,← Nat.div_div_eq_div_mul,show M^3=M*M*M from by decide +kernel,← Nat.div_div_eq_div_mul,← Nat.div_div_eq_div_mul,shr_key n r hn hr,mk_down _ _ _ _ b0,mk_down _ _ _ _ b1,mk_down _ _ _ _ b2]
 obtain ⟨e0,e1,e2,e3⟩:=of_mk _ _ _ _ _ e b3 (by decide) (by decide) (by decide)
 exact ⟨by unfold U;rw[e0,e1,e2,e3,div_pow];rfl,hb⟩
theorem shl_any(n k:Nat)(hn:n<W)(w:World):Calls Tryz.prog 159 #[U n,B k] w fun e w'=>e=.returned (U (shlW n k))∧Below w.heap.size w w':=by
 by_cases h:256≤k
 ·refine (shl_big_raw (l0 n) (l1 n) (l2 n) (l3 n) k h w).mono ?_
  rintro e w' ⟨rfl,hb⟩
  exact ⟨by rw[shlW,shl_big_zero n k h,U_zero],hb⟩
 ·have hr:k%64<64:=Nat.mod_lt _ (by decide)
  have hk:k=64*(k/64)+k%64:=by omega
  have hq:k/64=0∨k/64=1∨k/64=2∨k/64=3:=by omega
  generalize k%64=r at *
  rcases hq with hq | hq | hq | hq<;>rw[hq] at hk<;>subst hk
  ·exact shl_q0 n r hn hr w
  ·exact shl_q1 n r hn hr w
  ·exact shl_q2 n r hn hr w
  ·exact shl_q3 n r hn hr w
theorem shr_any(n k:Nat)(hn:n<W)(w:World):Calls Tryz.prog 122 #[U n,B k] w fun e w'=>e=.returned (U (shrW n k))∧Below w.heap.size w w':=by
 by_cases h:256≤k
 ·refine (shr_big_raw (l0 n) (l1 n) (l2 n) (l3 n) k h w).mono ?_
  rintro e w' ⟨rfl,hb⟩
  exact ⟨by rw[shrW,shr_big_zero n k hn h,U_zero],hb⟩
 ·have hr:k%64<64:=Nat.mod_lt _ (by decide)
  have hk:k=64*(k/64)+k%64:=by omega
  have hq:k/64=0∨k/64=1∨k/64=2∨k/64=3:=by omega
  generalize k%64=r at *
  rcases hq with hq | hq | hq | hq<;>rw[hq] at hk<;>subst hk
  ·exact shr_q0 n r hn hr w
  ·exact shr_q1 n r hn hr w
  ·exact shr_q2 n r hn hr w
  ·exact shr_q3 n r hn hr w
def bitsN (n:Nat):Nat:=bits4 (l0 n) (l1 n) (l2 n) (l3 n)
theorem bits_any(n:Nat)(w:World):Calls Tryz.prog 135 #[U n] w fun e w'=>e=.returned (.int .i64 (bitsN n:Nat))∧Below w.heap.size w w':=
 bits_raw (l0 n) (l1 n) (l2 n) (l3 n) (l0_lt n) (l1_lt n) (l2_lt n) (l3_lt n) w
theorem rbits_any(n:Nat)(w:World):Calls Tryz.prog 79 #[U n] w fun e w'=>e=.returned (.int .i64 (bitsN n:Nat))∧Below w.heap.size w w':=
 rbits_raw (l0 n) (l1 n) (l2 n) (l3 n) (l0_lt n) (l1_lt n) (l2_lt n) (l3_lt n) w
theorem bitsN_le(n j:Nat)(h:n<2^j):bitsN n≤j:=by
 have key:∀ x i:Nat,x=n/2^(64*i)%M→x≠0→64*i+Lib.bitLen x≤j:=by
  intro x i hx h0
  have hle:x≤n/2^(64*i):=by rw[hx];exact Nat.mod_le _ _
  have hij:64*i≤j:=by
   rcases Nat.lt_or_ge j (64*i) with h' | h'
   ·have:n/2^(64*i)=0:=Nat.div_eq_of_lt (Nat.lt_of_lt_of_le h (Nat.pow_le_pow_right (by decide) (by omega)))
    omega
   ·exact h'
  have hlt:x<2^(j-64*i):=by
   refine Nat.lt_of_le_of_lt hle (Nat.div_lt_of_lt_mul ?_)
   rw[← Nat.pow_add,show 64*i+(j-64*i)=j by omega];exact h
  have:=Lib.bitLenAux_le 64 x (j-64*i) hlt
  unfold Lib.bitLen;omega
 have k0:=key (l0 n) 0 (by unfold l0;simp)
 have k1:=key (l1 n) 1 (by unfold l1;rw[M_pow])
 have k2:=key (l2 n) 2 (by unfold l2;rw[MM_pow])
 have k3:=key (l3 n) 3 (by unfold l3;rw[MMM_pow])
 unfold bitsN bits4
 split
 ·split
  ·split
   ·split
    ·omega
    ·rename_i h;have:=k0 h;omega
   ·rename_i h;have:=k1 h;omega
  ·rename_i h;have:=k2 h;omega
 ·rename_i h;have:=k3 h;omega
end
end Go.Proofs.YtfhppenjbmmadaaGreatDoor
