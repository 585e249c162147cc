import Derived.Test.YtfhppenjbmmadaaGreatDoorXmM24
import Derived.Test.YtfhppenjbmmadaaGreatDoorXmM25
import Derived.Test.YtfhppenjbmmadaaGreatDoorXmM27
import Derived.Test.YtfhppenjbmmadaaGreatDoorXmFl
namespace Go.Proofs.YtfhppenjbmmadaaGreatDoor
set_option linter.unusedVariables false
set_option maxHeartbeats 8000000
section
open Go.RowKit Go.Sort
theorem U_Pp:(.agg #[.int .u64 18446744069414583343,.int .u64 18446744073709551615,.int .u64 18446744073709551615,.int .u64 18446744073709551615]:Value)=U Pp:=by
 have h0:l0 Pp=18446744069414583343:=by decide +kernel
 have h1:l1 Pp=18446744073709551615:=by decide +kernel
 have h2:l2 Pp=18446744073709551615:=by decide +kernel
 have h3:l3 Pp=18446744073709551615:=by decide +kernel
 unfold U U4
 rw[h0,h1,h2,h3]
 rfl
theorem prime_any:Ds 123 #[] (U Pp):=by rw[← U_Pp];exact fun w=>prime_raw w
theorem rprime_any:Ds 48 #[] (U Pp):=by rw[← U_Pp];exact fun w=>rprime_raw w
theorem rplus_any(a b:Nat)(ha:a<Pp)(hb:b<Pp):Ds 92 #[U a,U b] (U ((a+b)%Pp)):=by
 have hP:=W_P
 have hg:Gp<Pp:=by decide +kernel
 have c1:Ds 76 #[U a,U b] (.tuple #[U (addW a b),.bool (ovW a b)]):=fun w=>radd_any a b (by omega) (by omega) w
 have c3:Ds 27 #[U (addW a b),U Pp] (.tuple #[U (subW (addW a b) Pp),.bool (unW (addW a b) Pp)]):=fun w=>rsub_any _ _ (addW_lt _ _) Pp_lt w
 by_cases ho:W≤a+b
 ·have e1:ovW a b=true:=decide_eq_true ho
  rw[e1] at c1
  have e2:subW (addW a b) Pp=(a+b)%Pp:=by
   unfold subW addW
   rw[Nat.mod_eq_sub_mod ho,Nat.mod_eq_of_lt (by omega:a+b-W<W),Nat.mod_eq_of_lt (by omega),Nat.mod_eq_sub_mod (by omega:a+b≥Pp),Nat.mod_eq_of_lt (by omega)]
   omega
  rw[e2] at c3
  exact fun w=>rplus_ov a b c1 rprime_any c3 w
 ·have e1:ovW a b=false:=decide_eq_false ho
  rw[e1] at c1
  have e0:addW a b=a+b:=Nat.mod_eq_of_lt (by omega)
  rw[e0] at c1 c3
  by_cases hu:a+b<Pp
  ·rw[show unW (a+b) Pp=true from decide_eq_true hu] at c3
   rw[Nat.mod_eq_of_lt hu]
   exact fun w=>rplus_un a b c1 rprime_any c3 w
  ·rw[show unW (a+b) Pp=false from decide_eq_false hu] at c3
   have e2:subW (a+b) Pp=(a+b)%Pp:=by
    unfold subW
    rw[show a+b+W-Pp=(a+b-Pp)+W by omega,Nat.add_mod_right,Nat.mod_eq_of_lt (by omega),Nat.mod_eq_sub_mod (by omega:a+b≥Pp),Nat.mod_eq_of_lt (by omega)]
   rw[e2] at c3
   exact fun w=>rplus_no a b c1 rprime_any c3 w
theorem rminus_any(a b:Nat)(ha:a<Pp)(hb:b<Pp):Ds 108 #[U a,U b] (U ((a+(Pp-b))%Pp)):=by
 have hP:=W_P
 have c1:Ds 27 #[U a,U b] (.tuple #[U (subW a b),.bool (unW a b)]):=fun w=>rsub_any a b (by omega) (by omega) w
 have c3:Ds 76 #[U (subW a b),U Pp] (.tuple #[U (addW (subW a b) Pp),.bool (ovW (subW a b) Pp)]):=fun w=>radd_any _ _ (subW_lt _ _) Pp_lt w
 have h:=rminus_raw a b c1 (fun _=>rprime_any) (fun _=>c3)
 have e:(cond (unW a b) (U (addW (subW a b) Pp)) (U (subW a b)):Value)=U ((a+(Pp-b))%Pp):=by
  by_cases hu:a<b
  ·rw[show unW a b=true from decide_eq_true hu]
   refine congrArg U ?_
   unfold addW subW
   rw[Nat.mod_eq_of_lt (by omega:a+W-b<W),Nat.mod_eq_of_lt (by omega:a+(Pp-b)<Pp),Nat.mod_eq_sub_mod (by omega),Nat.mod_eq_of_lt (by omega)]
   omega
  ·rw[show unW a b=false from decide_eq_false hu]
   refine congrArg U ?_
   unfold subW
   rw[show a+W-b=(a-b)+W by omega,Nat.add_mod_right,Nat.mod_eq_of_lt (by omega),show a+(Pp-b)=(a-b)+Pp by omega,Nat.add_mod_right,Nat.mod_eq_of_lt (by omega)]
 rw[e] at h
 exact h
theorem mul_x(x y:Nat)(hx:x<M)(hy:y<M):Ds 90 #[B x,B y] (.tuple #[B (x*y/M),B (x*y%M)]):=fun w=>
 (mul64_any x y hx hy w).mono (by rintro e w' ⟨rfl,rfl⟩;exact ⟨rfl,Below.refl _ _⟩)
theorem rstep_ex{x a d:Nat}(hx:x<M)(ha:a<M)(hd:d<M):∃ hi lo s1 c1 t1 c2 u1 u2:Nat,Ds 90 #[B x,B Gp] (.tuple #[B hi,B lo])∧XDoes 91 #[B a,B lo,B 0] (.tuple #[B s1,B c1])∧XDoes 91 #[B s1,B d,B 0] (.tuple #[B t1,B c2]) ∧
  IntKind.u64.wrap ((hi:Int)+(c1:Int))=(u1:Int)∧IntKind.u64.wrap ((u1:Int)+(c2:Int))=(u2:Int)∧M*u2+t1=x*Gp+a+d∧u2<M∧t1<M:=by
 have hb:=hs_lt hx Gp_lt ha hd
 have hq:x*Gp/M<M:=Nat.div_lt_of_lt_mul (Nat.mul_lt_mul'' hx Gp_lt)
 have ed:=Nat.div_add_mod (x*Gp) M
 have hl:x*Gp%M<M:=Nat.mod_lt _ (by decide)
 have e1:=sm_cy a (x*Gp%M) 0 ha hl (by omega)
 have e2:=sm_cy (sm a (x*Gp%M) 0) d 0 (sm_lt _ _ _) hd (by omega)
 have k1:=cy_le a (x*Gp%M) 0
 have k2:=cy_le (sm a (x*Gp%M) 0) d 0
 have l2:=sm_lt (sm a (x*Gp%M) 0) d 0
 have m1:=mul_x x Gp hx Gp_lt
 have m2:=add_x a (x*Gp%M) 0 ha hl (by omega)
 have m3:=add_x (sm a (x*Gp%M) 0) d 0 (sm_lt _ _ _) hd (by omega)
 unfold hs at hb
 generalize x*Gp/M=hi at *
 generalize x*Gp%M=lo at *
 generalize sm a lo 0=s1 at *
 generalize cy a lo 0=c1 at *
 generalize sm s1 d 0=t1 at *
 generalize cy s1 d 0=c2 at *
 have hsum:M*(hi+c1+c2)+t1=x*Gp+a+d:=by rw[Nat.mul_add,Nat.mul_add];omega
 have hlt:hi+c1+c2<M:=by
  rw[← hsum,Nat.mul_add_div (by decide),Nat.div_eq_of_lt l2,Nat.add_zero] at hb
  exact hb
 refine ⟨hi,lo,s1,c1,t1,c2,hi+c1,hi+c1+c2,m1,m2,m3,?_,?_,hsum,hlt,l2⟩
 ·rw[IntKind.wrap_u64];unfold M at hlt;omega
 ·rw[IntKind.wrap_u64];unfold M at hlt;omega
theorem rtimes_any(a b:Nat)(ha:a<W)(hb:b<W):Ds 49 #[U a,U b] (U (a*b%Pp)):=by
 have hP:=W_P
 have hW:Ds 89 #[U a,U b] (.tuple #[U (a*b/W),U (a*b%W)]):=fun w=>rwide_any a b ha hb w
 have hh:a*b/W<W:=Nat.div_lt_of_lt_mul (Nat.mul_lt_mul'' ha hb)
 have hl:a*b%W<W:=Nat.mod_lt _ W_pos
 have ed:=Nat.div_add_mod (a*b) W
 generalize a*b/W=hi at *
 generalize a*b%W=lo at *
 have z:(0:Nat)<M:=by decide
 obtain ⟨m0,n0,s0,c0,t0,d0,u0,v0,p0,q0,r0,w0,x0,e0,y0,z0⟩:=rstep_ex (l0_lt hi) (l0_lt lo) z
 obtain ⟨m1,n1,s1,c1,t1,d1,u1,v1,p1,q1,r1,w1,x1,e1,y1,z1⟩:=rstep_ex (l1_lt hi) (l1_lt lo) y0
 obtain ⟨m2,n2,s2,c2,t2,d2,u2,v2,p2,q2,r2,w2,x2,e2,y2,z2⟩:=rstep_ex (l2_lt hi) (l2_lt lo) y1
 obtain ⟨m3,n3,s3,c3,t3,d3,u3,v3,p3,q3,r3,w3,x3,e3,y3,z3⟩:=rstep_ex (l3_lt hi) (l3_lt lo) y2
 have e:=stp4 e0 e1 e2 e3
 rw[W4] at e
 have eh:=mk_parts hi hh
 have el:=mk_parts lo hl
 have hfst:mk t0 t1 t2 t3+W*v3=lo+Gp*hi:=by
  have e':mk t0 t1 t2 t3+W*v3=mk (l0 lo) (l1 lo) (l2 lo) (l3 lo)+Gp*mk (l0 hi) (l1 hi) (l2 hi) (l3 hi):=e
  rwa [eh,el] at e'
 have hk3:v3≤Gp:=by
  have h9:Gp*hi≤Gp*W:=Nat.mul_le_mul_left _ (Nat.le_of_lt hh)
  have h10:W*v3<W*(Gp+1):=by rw[Nat.mul_add,Nat.mul_one,Nat.mul_comm W Gp];omega
  have:=Nat.lt_of_mul_lt_mul_left h10
  omega
 have hkG:v3*Gp≤Gp*Gp:=Nat.mul_le_mul_right _ hk3
 have hGG:=GG_lt
 have lt4:=mk_lt t0 t1 t2 t3 z0 z1 z2 z3
 have m4:=mul_x v3 Gp y3 Gp_lt
 have ev:=Nat.div_add_mod (v3*Gp) M
 have hvd:v3*Gp/M<M:=Nat.div_lt_of_lt_mul (Nat.mul_lt_mul'' y3 Gp_lt)
 have hvm:v3*Gp%M<M:=Nat.mod_lt _ z
 have eU1:=U_mk t0 t1 t2 t3 z0 z1 z2 z3
 have eU2:=U_mk (v3*Gp%M) (v3*Gp/M) 0 0 hvm hvd z z
 have em2:mk (v3*Gp%M) (v3*Gp/M) 0 0=v3*Gp:=by unfold mk;rw[Nat.mul_zero,Nat.add_zero,Nat.mul_zero,Nat.add_zero];omega
 rw[em2] at eU2
 have hXlt:mk t0 t1 t2 t3+v3*Gp<2*Pp:=by omega
 have hmod:(mk t0 t1 t2 t3+v3*Gp)%Pp=a*b%Pp:=by
  have k1:(mk t0 t1 t2 t3+v3*Gp)+Pp*v3=lo+Gp*hi:=by
   rw[← hfst,W_P,Nat.add_mul,Nat.mul_comm v3 Gp];omega
  have k2:a*b=(lo+Gp*hi)+Pp*hi:=by
   rw[← ed,W_P,Nat.add_mul];omega
  rw[k2,Nat.add_mul_mod_self_left,← k1,Nat.add_mul_mod_self_left]
 rw[← hmod]
 generalize hX:mk t0 t1 t2 t3=tt at *
 have a1:Ds 76 #[U tt,U (v3*Gp)] (.tuple #[U (addW tt (v3*Gp)),.bool (ovW tt (v3*Gp))]):=fun w=>radd_any _ _ lt4 (by omega) w
 rw[eU1,eU2] at a1
 have a2:Ds 76 #[U (addW tt (v3*Gp)),U Gp] (.tuple #[U (addW (addW tt (v3*Gp)) Gp),.bool (ovW (addW tt (v3*Gp)) Gp)]):=fun w=>radd_any _ _ (addW_lt _ _) (Nat.lt_trans Gp_lt (by decide +kernel)) w
 have a3:Ds 27 #[U (addW (addW tt (v3*Gp)) Gp),U Pp] (.tuple #[U (subW (addW (addW tt (v3*Gp)) Gp) Pp),.bool (unW (addW (addW tt (v3*Gp)) Gp) Pp)]):=fun w=>rsub_any _ _ (addW_lt _ _) Pp_lt w
 have a4:Ds 27 #[U (addW tt (v3*Gp)),U Pp] (.tuple #[U (subW (addW tt (v3*Gp)) Pp),.bool (unW (addW tt (v3*Gp)) Pp)]):=fun w=>rsub_any _ _ (addW_lt _ _) Pp_lt w
 have h:=rtimes_raw a b hW p0 q0 r0 w0 x0 p1 q1 r1 w1 x1 p2 q2 r2 w2 x2 p3 q3 r3 w3 x3 m4 a1 (fun _=>a2) (fun _=>rprime_any) (fun _=>a3) (fun _=>rprime_any) (fun _=>a4)
 have ee:(cond (ovW tt (v3*Gp)) (cond (unW (addW (addW tt (v3*Gp)) Gp) Pp) (U (addW (addW tt (v3*Gp)) Gp)) (U (subW (addW (addW tt (v3*Gp)) Gp) Pp))) (cond (unW (addW tt (v3*Gp)) Pp) (U (addW tt (v3*Gp))) (U (subW (addW tt (v3*Gp)) Pp))):Value)=U ((tt+v3*Gp)%Pp):=by
  by_cases ho:W≤tt+v3*Gp
  ·have e1:addW tt (v3*Gp)=tt+v3*Gp-W:=by unfold addW;rw[Nat.mod_eq_sub_mod ho,Nat.mod_eq_of_lt (by omega)]
   have e2:addW (addW tt (v3*Gp)) Gp=tt+v3*Gp-Pp:=by rw[e1];unfold addW;rw[Nat.mod_eq_of_lt (by omega)];omega
   rw[show ovW tt (v3*Gp)=true from decide_eq_true ho,e2,show unW (tt+v3*Gp-Pp) Pp=true from decide_eq_true (by omega)]
   show U _=U _
   rw[Nat.mod_eq_sub_mod (by omega:tt+v3*Gp≥Pp),Nat.mod_eq_of_lt (by omega)]
  ·have e1:addW tt (v3*Gp)=tt+v3*Gp:=Nat.mod_eq_of_lt (by omega)
   rw[show ovW tt (v3*Gp)=false from decide_eq_false ho,e1]
   by_cases hu:tt+v3*Gp<Pp
   ·rw[show unW (tt+v3*Gp) Pp=true from decide_eq_true hu]
    show U _=U _
    rw[Nat.mod_eq_of_lt hu]
   ·rw[show unW (tt+v3*Gp) Pp=false from decide_eq_false hu]
    refine congrArg U ?_
    unfold subW
    rw[show tt+v3*Gp+W-Pp=(tt+v3*Gp-Pp)+W by omega,Nat.add_mod_right,Nat.mod_eq_of_lt (by omega),Nat.mod_eq_sub_mod (by omega:tt+v3*Gp≥Pp),Nat.mod_eq_of_lt (by omega)]
 rw[ee] at h
 exact h
end
section
open Go.RowKit Go.Sort
theorem fl(a:Fin Pp):a.val<Pp:=a.isLt
theorem fw(a:Fin Pp):a.val<W:=Nat.lt_trans a.isLt Pp_lt
theorem val_sub(a b:Fin Pp):(a-b).val=(a.val+(Pp-b.val))%Pp:=by rw[Fin.sub_def];simp[Nat.add_comm]
abbrev vP:Pt→Value
 | none=>A9 0 0 true
 | some (x,y)=>A9 x.val y.val false
theorem none_any:Ds 130 #[] (vP none):=fun w=>none_raw w
theorem fm_any(a b:Fin Pp):Ds 126 #[U a.val,U b.val] (U (a*b).val):=by rw[Fin.val_mul];exact product_any _ _ (fw a) (fw b)
theorem fa_any(a b:Fin Pp):Ds 127 #[U a.val,U b.val] (U (a+b).val):=by rw[Fin.val_add];exact plus_any _ _ (fl a) (fl b)
theorem fs_any(a b:Fin Pp):Ds 99 #[U a.val,U b.val] (U (a-b).val):=by rw[val_sub];exact less_any _ _ (fl a) (fl b)
theorem rfm_any(a b:Fin Pp):Ds 49 #[U a.val,U b.val] (U (a*b).val):=by rw[Fin.val_mul];exact rtimes_any _ _ (fw a) (fw b)
theorem rfa_any(a b:Fin Pp):Ds 92 #[U a.val,U b.val] (U (a+b).val):=by rw[Fin.val_add];exact rplus_any _ _ (fl a) (fl b)
theorem rfs_any(a b:Fin Pp):Ds 108 #[U a.val,U b.val] (U (a-b).val):=by rw[val_sub];exact rminus_any _ _ (fl a) (fl b)
theorem eq_any(a b:Fin Pp)(w:World):(Op.equalIn 10000 24 (U a.val) (U b.val)).run Tryz.prog w=.ok (decide (a=b)) w:=by
 rw[run_eqU _ _ (fw a) (fw b)]
 congr 1
 exact decide_eq_decide.2 ⟨fun h=>Fin.ext h,fun h=>congrArg _ h⟩
theorem crossed_any(a b c d e:Fin Pp):Ds 132 #[U a.val,U b.val,U c.val,U d.val,U e.val] (U ((a+b)*(c+d)-e).val):=fun w=>crossed_raw _ _ _ _ _ (fa_any a b) (fa_any c d) (fm_any _ _) (fs_any _ e) w
section
variable [NeZero Pp]
theorem val_cf{n:Nat}(h:n<Pp):(cf n).val=n:=by unfold cf;simp[Fin.ofNat,Nat.mod_eq_of_lt h]
theorem val_0:(0:Fin Pp).val=0:=by rw[← cf_zero];exact val_cf Pp_pos
theorem val_1:(1:Fin Pp).val=1:=by rw[← cf_one];exact val_cf (Nat.lt_trans (by decide) Pp_big)
theorem of_any'(k:Nat)(hk:k<1000):Ds 66 #[.int .u64 (k:Int)] (U (cf k).val):=by
 rw[val_cf (Nat.lt_trans hk Pp_big)]
 exact fun w=>of_any k (Nat.lt_trans hk (by decide)) w
abbrev vT (a:T3p):Value:=A3 a.1.val a.2.1.val a.2.2.val
theorem g_xy(a b c d:Fin Pp):(a+b)*(c+d)-(a*c+b*d)=a*d+c*b:=by grind
theorem g_3(a:Fin Pp):a+(a+a)=3*a:=by grind
theorem joined_any(a b:T3p):Ds 102 #[vT a,vT b] (vT (J3 a b)):=by
 obtain ⟨x1,y1,z1⟩:=a
 obtain ⟨x2,y2,z2⟩:=b
 have h:=fun w=>joined_raw x1.val y1.val z1.val x2.val y2.val z2.val (fm_any x1 x2) (fm_any y1 y2) (fm_any z1 z2) (fa_any _ _) (crossed_any x1 y1 x2 y2 _) (fa_any _ _) (crossed_any y1 z1 y2 z2 _) (fa_any _ _) (crossed_any x1 z1 x2 z2 _)
  (fa_any _ _) (fa_any _ _) (of_any' 21 (by decide)) (fm_any _ _) (fm_any _ _) (fa_any _ _) (fs_any _ _) (fm_any _ _) (fm_any _ _) (fs_any _ _) (fm_any _ _) (fm_any _ _) (fa_any _ _) (fm_any _ _) (fm_any _ _) (fa_any _ _) w
 simp only[g_xy,g_3,show cf 21=(21:Fin Pp) from rfl] at h
 exact h
theorem nought_any:Ds 133 #[] (vT nou):=by
 show Ds 133 #[] (A3 (0:Fin Pp).val (1:Fin Pp).val (0:Fin Pp).val)
 rw[val_0]
 have h:=fun w=>nought_raw (of_any' 1 (by decide)) w
 rw[cf_one] at h
 exact h
theorem spread_any(P:Pt):Ds 104 #[vP P] (vT (spr P)):=by
 cases P with
 | none=>
  have h:=nought_any
  show Ds 104 #[A9 0 0 true] (vT nou)
  have e:vT nou=A3 0 1 0:=by show A3 (0:Fin Pp).val (1:Fin Pp).val (0:Fin Pp).val=_;rw[val_0,val_1]
  rw[e] at h ⊢
  exact fun w=>spread_none 0 0 h w
 | some p=>
  obtain ⟨x,y⟩:=p
  have h:=fun w=>spread_some x.val y.val (of_any' 1 (by decide)) w
  rw[cf_one] at h
  exact h
theorem right_any(x:Fin Pp):Ds 97 #[U x.val] (U (x*x*x+7).val):=by
 have h:=fun w=>right_raw x.val (fm_any x x) (fm_any _ x) (of_any' 7 (by decide)) (fa_any _ _) w
 rw[cf_seven] at h
 exact h
theorem point_any(hinv:∀ z:Fin Pp,Ds 131 #[U z.val] (U (ivF z).val))(a:T3p):Ds 101 #[vT a] (vP (nrm ivF a)):=by
 obtain ⟨x,y,z⟩:=a
 have he:=fun w=>eq_any z 0 w
 rw[val_0] at he
 unfold nrm
 simp only[]
 by_cases hz:z=0
 ·rw[if_pos hz]
  exact fun w=>point_none _ _ _ (fun w=>by rw[he,decide_eq_true hz]) none_any w
 ·rw[if_neg hz]
  exact fun w=>point_some _ _ _ (fun w=>by rw[he,decide_eq_false hz]) (hinv z) (fm_any x _) (fm_any y _) w
end
end
section
open Go.RowKit Go.Sort
set_option maxRecDepth 100000 in
theorem bit_raw0(a0 a1 a2 a3 i r:Nat)(hi:(i:Int)<256)(hq:(i:Int)/64=0)(hr:(i:Int)%64=(r:Int))(hr1:(r:Int)<64)(z:Bool)(hz:(bits .and .u64 ((a0:Int)/2^r) 1 == 1)=z)(w:World) :
  Calls Tryz.prog 136 #[U4 a0 a1 a2 a3,.int .i64 (i:Int)] w fun e w'=>e=.returned (.bool z)∧Below w.heap.size w w':=by
 go_enter Tryz.func136,Tryz.ntmps136
 go_wp2
 go_ret
 exact ⟨rfl,bAl (Below.refl _ _) _⟩
set_option maxRecDepth 100000 in
theorem bit_raw1(a0 a1 a2 a3 i r:Nat)(hi:(i:Int)<256)(hq:(i:Int)/64=1)(hr:(i:Int)%64=(r:Int))(hr1:(r:Int)<64)(z:Bool)(hz:(bits .and .u64 ((a1:Int)/2^r) 1 == 1)=z)(w:World) :
  Calls Tryz.prog 136 #[U4 a0 a1 a2 a3,.int .i64 (i:Int)] w fun e w'=>e=.returned (.bool z)∧Below w.heap.size w w':=by
 go_enter Tryz.func136,Tryz.ntmps136
 go_wp2
 go_ret
 exact ⟨rfl,bAl (Below.refl _ _) _⟩
set_option maxRecDepth 100000 in
theorem bit_raw2(a0 a1 a2 a3 i r:Nat)(hi:(i:Int)<256)(hq:(i:Int)/64=2)(hr:(i:Int)%64=(r:Int))(hr1:(r:Int)<64)(z:Bool)(hz:(bits .and .u64 ((a2:Int)/2^r) 1 == 1)=z)(w:World) :
  Calls Tryz.prog 136 #[U4 a0 a1 a2 a3,.int .i64 (i:Int)] w fun e w'=>e=.returned (.bool z)∧Below w.heap.size w w':=by
 go_enter Tryz.func136,Tryz.ntmps136
 go_wp2
 go_ret
 exact ⟨rfl,bAl (Below.refl _ _) _⟩
set_option maxRecDepth 100000 in
theorem bit_raw3(a0 a1 a2 a3 i r:Nat)(hi:(i:Int)<256)(hq:(i:Int)/64=3)(hr:(i:Int)%64=(r:Int))(hr1:(r:Int)<64)(z:Bool)(hz:(bits .and .u64 ((a3:Int)/2^r) 1 == 1)=z)(w:World) :
  Calls Tryz.prog 136 #[U4 a0 a1 a2 a3,.int .i64 (i:Int)] w fun e w'=>e=.returned (.bool z)∧Below w.heap.size w w':=by
 go_enter Tryz.func136,Tryz.ntmps136
 go_wp2
 go_ret
 exact ⟨rfl,bAl (Below.refl _ _) _⟩
theorem and_bit(x r:Nat)(hx:x<M):(bits .and .u64 ((x:Int)/2^r) 1 == 1)=x.testBit r:=by
 have e1:((x:Int)/2^r)=((x/2^r:Nat):Int):=by simp
 have e2:=bits_and (x/2^r) 1 (Nat.lt_of_le_of_lt (Nat.div_le_self _ _) hx) (by decide)
 rw[e1,show (1:Int)=((1:Nat):Int) from rfl,e2,Nat.and_one_is_mod,Nat.testBit_eq_decide_div_mod_eq,Bool.eq_iff_iff]
 simp only[beq_iff_eq,decide_eq_true_eq]
 omega
theorem tb_part(e q r:Nat)(hr:r<64):(e/2^(64*q)%M).testBit r=e.testBit (64*q+r):=by
 rw[M_pow,Nat.testBit_mod_two_pow,Nat.testBit_div_two_pow,Nat.add_comm r]
 simp[hr]
theorem pbit_any(e i:Nat)(hi:i<256):Ds 136 #[U e,.int .i64 (i:Int)] (.bool (e.testBit i)):=by
 have hr:i%64<64:=Nat.mod_lt _ (by decide)
 have key:∀ q,i/64=q→e.testBit i=(e/2^(64*q)%M).testBit (i%64):=fun q hq=>by
  rw[tb_part e q _ hr];congr 1;omega
 have hq:i/64=0∨i/64=1∨i/64=2∨i/64=3:=by omega
 rcases hq with h | h | h | h
 ·have k:=key 0 h
  have e1:e/2^(64*0)%M=l0 e:=by unfold l0;rw[Nat.mul_zero,Nat.pow_zero,Nat.div_one]
  rw[e1] at k
  exact fun w=>bit_raw0 _ _ _ _ i (i%64) (by omega) (by omega) (by omega) (by omega) _ (by rw[and_bit _ _ (l0_lt e),k]) w
 ·have k:=key 1 h
  have e1:e/2^(64*1)%M=l1 e:=by unfold l1;rw[M_pow]
  rw[e1] at k
  exact fun w=>bit_raw1 _ _ _ _ i (i%64) (by omega) (by omega) (by omega) (by omega) _ (by rw[and_bit _ _ (l1_lt e),k]) w
 ·have k:=key 2 h
  have e1:e/2^(64*2)%M=l2 e:=by unfold l2;rw[MM_pow]
  rw[e1] at k
  exact fun w=>bit_raw2 _ _ _ _ i (i%64) (by omega) (by omega) (by omega) (by omega) _ (by rw[and_bit _ _ (l2_lt e),k]) w
 ·have k:=key 3 h
  have e1:e/2^(64*3)%M=l3 e:=by unfold l3;rw[MMM_pow]
  rw[e1] at k
  exact fun w=>bit_raw3 _ _ _ _ i (i%64) (by omega) (by omega) (by omega) (by omega) _ (by rw[and_bit _ _ (l3_lt e),k]) w
theorem mod_succ_bit(e i:Nat):e%2^(i+1)=e%2^i+(if e.testBit i then 2^i else 0):=by
 rw[Nat.mod_pow_succ,Nat.testBit_eq_decide_div_mod_eq]
 have h2:=Nat.mod_lt (e/2^i) (show 0<2 by decide)
 by_cases h:e/2^i%2=1
 ·rw[h];simp
 ·rw[show e/2^i%2=0 by omega];simp
def sqA (a:Nat):Nat→Nat
 | 0=>a
 | j+1=>a^2^(j+1)%Pp
theorem sqA_mod(a i:Nat):sqA a i%Pp=a^2^i%Pp:=by
 cases i with
 | zero=>show a%Pp=a^2^0%Pp;rw[Nat.pow_zero,Nat.pow_one]
 | succ j=>exact Nat.mod_mod _ _
theorem sqA_lt(a i:Nat)(ha:a<W):sqA a i<W:=by
 cases i with
 | zero=>exact ha
 | succ j=>exact Nat.lt_trans (Nat.mod_lt _ Pp_pos) Pp_lt
theorem pw_lt(x:Nat):x%Pp<W:=Nat.lt_trans (Nat.mod_lt _ Pp_pos) Pp_lt
theorem one_mod:1%Pp=1:=by decide +kernel
theorem power_any(a e:Nat)(ha:a<W)(he:e<W):Ds 125 #[U a,U e] (U (a^e%Pp)):=by
 have hn:e<2^bitsN e:=bitsN_lt e he
 have hN:bitsN e≤256:=bitsN_le e 256 (by rw[← W_pow];exact he)
 have h:=power_raw (sqA a) (fun i=>a^(e%2^i)%Pp) (fun i=>e.testBit i) e (bitsN e) hN
  (by
   show Ds 66 #[(.int .u64 1)] (U (a^(e%2^0)%Pp))
   rw[Nat.pow_zero,Nat.mod_one,Nat.pow_zero,one_mod]
   exact fun w=>of_any 1 (by decide) w)
  (fun w=>bits_any e w) (fun i hi=>pbit_any e i (by omega))
  (fun i=>by
   have k:=product_any (sqA a i) (sqA a i) (sqA_lt a i ha) (sqA_lt a i ha)
   rw[Nat.mul_mod,sqA_mod,← Nat.mul_mod,← Nat.pow_add,show 2^i+2^i=2^(i+1) by rw[Nat.pow_succ];omega] at k
   exact k)
  (fun i hi hb=>by
   have k:=product_any (a^(e%2^i)%Pp) (sqA a i) (pw_lt _) (sqA_lt a i ha)
   have hb':e.testBit i=true:=hb
   have e1:=mod_succ_bit e i
   rw[if_pos hb'] at e1
   rw[Nat.mul_mod,Nat.mod_mod,sqA_mod,← Nat.mul_mod,← Nat.pow_add,← e1] at k
   exact k)
  (fun i hi hb=>by
   have hb':¬ e.testBit i=true:=by rw[hb];decide
   have e1:=mod_succ_bit e i
   rw[if_neg hb'] at e1
   show a^(e%2^(i+1))%Pp=a^(e%2^i)%Pp
   rw[e1]
   simp only[Nat.add_zero])
 rw[Nat.mod_eq_of_lt hn] at h
 exact h
theorem sub2:subW Pp 2=Pp-2:=by decide +kernel
theorem inverse_any'(a:Nat)(ha:a<W):Ds 131 #[U a] (U (a^(Pp-2)%Pp)):=by
 have c3:Ds 106 #[U Pp,U 2] (.tuple #[U (subW Pp 2),.bool (unW Pp 2)]):=fun w=>sub_any Pp 2 Pp_lt (by decide +kernel) w
 rw[sub2] at c3
 exact fun w=>inverse_raw a prime_any (fun w=>of_any 2 (by decide) w) c3 (power_any a (Pp-2) ha (Nat.lt_of_le_of_lt (Nat.sub_le _ _) Pp_lt)) w
end
end Go.Proofs.YtfhppenjbmmadaaGreatDoor
