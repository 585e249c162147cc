import Derived.Test.YtfhppenjbmmadaaGreatDoorXmM22
import Derived.Test.YtfhppenjbmmadaaGreatDoorXmM23
namespace Go.Proofs.YtfhppenjbmmadaaGreatDoor
set_option linter.unusedVariables false
set_option maxHeartbeats 8000000
section
open Go.RowKit Go.Sort
def Gp:Nat:=4294968273
theorem W_P:W=Pp+Gp:=by decide +kernel
theorem Gp_lt:Gp<M:=by decide
theorem GG_lt:Gp*Gp+W<2*Pp:=by decide +kernel
theorem Pp_pos:0<Pp:=by decide
theorem Pp_lt:Pp<W:=by decide +kernel
theorem U_mk(a b c d:Nat)(ha:a<M)(hb:b<M)(hc:c<M)(hd:d<M):U (mk a b c d)=U4 a b c d:=by
 simp only[U,l0_mk a b c d ha,l1_mk a b c d ha hb,l2_mk a b c d ha hb hc,l3_mk a b c d ha hb hc hd]
theorem add4{A s0 s1 s2 s3 b0 b1 b2 b3 t0 t1 t2 t3 c0 c1 c2 c3:Nat}(e0:t0+A*c0=s0+b0+0)(e1:t1+A*c1=s1+b1+c0)(e2:t2+A*c2=s2+b2+c1)(e3:t3+A*c3=s3+b3+c2) :
  t0+A*(t1+A*(t2+A*t3))+A*A*A*A*c3=s0+A*(s1+A*(s2+A*s3))+(b0+A*(b1+A*(b2+A*b3))):=by grind
theorem sub4{A s0 s1 s2 s3 b0 b1 b2 b3 t0 t1 t2 t3 c0 c1 c2 c3:Nat}(e0:t0+b0+0=s0+A*c0)(e1:t1+b1+c0=s1+A*c1)(e2:t2+b2+c1=s2+A*c2)(e3:t3+b3+c2=s3+A*c3) :
  t0+A*(t1+A*(t2+A*t3))+(b0+A*(b1+A*(b2+A*b3)))=s0+A*(s1+A*(s2+A*s3))+A*A*A*A*c3:=by grind
theorem add_x(x y c:Nat)(hx:x<M)(hy:y<M)(hc:c≤1):XDoes 91 #[B x,B y,B c] (.tuple #[B (sm x y c),B (cy x y c)]):=fun w=>run_add x y c hx hy hc w
theorem sub_x(x y c:Nat)(hc:c≤1):XDoes 63 #[B x,B y,B c] (.tuple #[B (df x y c),B (bo x y c)]):=fun w=>run_sub x y c hc w
theorem step_any(x y c d:Nat)(hx:x<M)(hy:y<M)(hc:c<M)(hd:d<M):Ds 145 #[B x,B y,B c,B d] (.tuple #[B ((x*y+c+d)/M),B ((x*y+c+d)%M)]):=by
 have hp:x*y≤(M-1)*(M-1):=Nat.mul_le_mul (by omega) (by omega)
 have hq:x*y/M<M:=Nat.div_lt_of_lt_mul (Nat.lt_of_le_of_lt hp (by decide))
 have ed:=Nat.div_add_mod (x*y) M
 have hl:x*y%M<M:=Nat.mod_lt _ (by decide)
 generalize hhi:x*y/M=hi at *
 generalize hlo:x*y%M=lo at *
 have e1:=sm_cy lo c 0 hl hc (by omega)
 have e2:=sm_cy (sm lo c 0) d 0 (sm_lt _ _ _) hd (by omega)
 have k1:=cy_le lo c 0
 have k2:=cy_le (sm lo c 0) d 0
 have l2:=sm_lt (sm lo c 0) d 0
 have hs:x*y+c+d=M*(hi+cy lo c 0+cy (sm lo c 0) d 0)+sm (sm lo c 0) d 0:=by
  rw[Nat.mul_add,Nat.mul_add];omega
 have hb:hi+cy lo c 0+cy (sm lo c 0) d 0<M:=by
  unfold M at *
  omega
 have hdv:(x*y+c+d)/M=hi+cy lo c 0+cy (sm lo c 0) d 0:=by
  rw[hs,Nat.mul_add_div (by decide),Nat.div_eq_of_lt l2,Nat.add_zero]
 have hmd:(x*y+c+d)%M=sm (sm lo c 0) d 0:=by
  rw[hs,Nat.mul_add_mod,Nat.mod_eq_of_lt l2]
 rw[hdv,hmd]
 intro w
 refine step_raw x y c d (h0:=hi) (l1:=lo) (u4:=hi+cy lo c 0) (u7:=hi+cy lo c 0+cy (sm lo c 0) d 0) (fun w=>?_) (add_x lo c 0 hl hc (by omega)) ?_ (add_x (sm lo c 0) d 0 (sm_lt _ _ _) hd (by omega)) ?_ w
 ·refine (mul64_any x y hx hy w).mono ?_
  rintro e w' ⟨rfl,rfl⟩
  rw[hlo,hhi]
  exact ⟨rfl,Below.refl _ _⟩
 ·rw[IntKind.wrap_u64];unfold M at hb;omega
 ·rw[IntKind.wrap_u64];unfold M at hb;omega
theorem W4:M*M*M*M=W:=W_eq.symm
theorem settled_any(s0 s1 s2 s3 ov:Nat)(h0:s0<M)(h1:s1<M)(h2:s2<M)(h3:s3<M)(ho:ov≤1)(hs:mk s0 s1 s2 s3+W*ov<2*Pp) :
  Ds 147 #[B s0,B s1,B s2,B s3,B ov] (U ((mk s0 s1 s2 s3+W*ov)%Pp)):=by
 have c0:=cy_le s0 Gp 0
 have c1:=cy_le s1 0 (cy s0 Gp 0)
 have c2:=cy_le s2 0 (cy s1 0 (cy s0 Gp 0))
 have c3:=cy_le s3 0 (cy s2 0 (cy s1 0 (cy s0 Gp 0)))
 have e:=add4 (sm_cy s0 Gp 0 h0 Gp_lt (by omega)) (sm_cy s1 0 _ h1 (by decide) c0) (sm_cy s2 0 _ h2 (by decide) c1) (sm_cy s3 0 _ h3 (by decide) c2)
 have r0:=add_x s0 Gp 0 h0 Gp_lt (by omega)
 have r1:=add_x s1 0 _ h1 (by decide) c0
 have r2:=add_x s2 0 _ h2 (by decide) c1
 have r3:=add_x s3 0 _ h3 (by decide) c2
 have t0:=sm_lt s0 Gp 0
 have t1:=sm_lt s1 0 (cy s0 Gp 0)
 have t2:=sm_lt s2 0 (cy s1 0 (cy s0 Gp 0))
 have t3:=sm_lt s3 0 (cy s2 0 (cy s1 0 (cy s0 Gp 0)))
 generalize sm s0 Gp 0=u0 at *
 generalize cy s0 Gp 0=k0 at *
 generalize sm s1 0 k0=u1 at *
 generalize cy s1 0 k0=k1 at *
 generalize sm s2 0 k1=u2 at *
 generalize cy s2 0 k1=k2 at *
 generalize sm s3 0 k2=u3 at *
 generalize cy s3 0 k2=k3 at *
 have eU:=U_mk u0 u1 u2 u3 t0 t1 t2 t3
 have eS:=U_mk s0 s1 s2 s3 h0 h1 h2 h3
 have lu:=mk_lt u0 u1 u2 u3 t0 t1 t2 t3
 have ls:=mk_lt s0 s1 s2 s3 h0 h1 h2 h3
 rw[W4] at e
 have em:mk u0 u1 u2 u3+W*k3=mk s0 s1 s2 s3+Gp:=by unfold mk;rw[e];simp
 have hP:=W_P
 have hor:bits .or .u64 (k3:Int) (ov:Int)=((k3 ||| ov:Nat):Int):=bits_or _ _ (Nat.lt_of_le_of_lt c3 (by decide)) (Nat.lt_of_le_of_lt ho (by decide))
 generalize mk u0 u1 u2 u3=tt at *
 generalize mk s0 s1 s2 s3=ss at *
 have hk:k3=0∨k3=1:=by omega
 have hv:ov=0∨ov=1:=by omega
 have hi:∀ r,r=(ss+W*ov)%Pp→tt=r→¬ (k3 ||| ov)=0→Ds 147 #[B s0,B s1,B s2,B s3,B ov] (U r):=by
  rintro r _ rfl hne
  rw[eU]
  exact fun w=>settled_hi s0 s1 s2 s3 ov r0 r1 r2 r3 hor (by rw[beq_eq_false_iff_ne];omega) w
 rcases hk with rfl | rfl
 ·rcases hv with rfl | rfl
  ·have e1:(ss+W*0)%Pp=ss:=by rw[Nat.mul_zero,Nat.add_zero,Nat.mod_eq_of_lt (by omega)]
   rw[e1,eS]
   exact fun w=>settled_lo s0 s1 s2 s3 0 r0 r1 r2 r3 hor rfl w
  ·refine hi _ rfl ?_ (by decide)
   rw[Nat.mul_one,Nat.mod_eq_sub_mod (by omega),Nat.mod_eq_of_lt (by omega)]
   omega
 ·refine hi _ rfl ?_ (by rcases hv with rfl | rfl<;>decide)
  rcases hv with rfl | rfl
  ·rw[Nat.mul_zero,Nat.add_zero,Nat.mod_eq_sub_mod (by omega),Nat.mod_eq_of_lt (by omega)]
   omega
  ·exfalso
   omega
theorem plus_any(a b:Nat)(ha:a<Pp)(hb:b<Pp):Ds 127 #[U a,U b] (U ((a+b)%Pp)):=by
 have hP:=Pp_lt
 have c0:=cy_le (l0 a) (l0 b) 0
 have c1:=cy_le (l1 a) (l1 b) (cy (l0 a) (l0 b) 0)
 have c2:=cy_le (l2 a) (l2 b) (cy (l1 a) (l1 b) (cy (l0 a) (l0 b) 0))
 have c3:=cy_le (l3 a) (l3 b) (cy (l2 a) (l2 b) (cy (l1 a) (l1 b) (cy (l0 a) (l0 b) 0)))
 have e:=add4 (sm_cy (l0 a) (l0 b) 0 (l0_lt a) (l0_lt b) (by omega)) (sm_cy (l1 a) (l1 b) _ (l1_lt a) (l1_lt b) c0) (sm_cy (l2 a) (l2 b) _ (l2_lt a) (l2_lt b) c1) (sm_cy (l3 a) (l3 b) _ (l3_lt a) (l3_lt b) c2)
 have r0:=add_x (l0 a) (l0 b) 0 (l0_lt a) (l0_lt b) (by omega)
 have r1:=add_x (l1 a) (l1 b) _ (l1_lt a) (l1_lt b) c0
 have r2:=add_x (l2 a) (l2 b) _ (l2_lt a) (l2_lt b) c1
 have r3:=add_x (l3 a) (l3 b) _ (l3_lt a) (l3_lt b) c2
 rw[W4] at e
 have ea:=mk_parts a (by omega)
 have eb:=mk_parts b (by omega)
 have em:mk (sm (l0 a) (l0 b) 0) (sm (l1 a) (l1 b) (cy (l0 a) (l0 b) 0)) (sm (l2 a) (l2 b) (cy (l1 a) (l1 b) (cy (l0 a) (l0 b) 0))) (sm (l3 a) (l3 b) (cy (l2 a) (l2 b) (cy (l1 a) (l1 b) (cy (l0 a) (l0 b) 0)))) +
   W*cy (l3 a) (l3 b) (cy (l2 a) (l2 b) (cy (l1 a) (l1 b) (cy (l0 a) (l0 b) 0)))=a+b:=by
  unfold mk at *
  rw[e,ea,eb]
 rw[← em]
 exact fun w=>plus_raw (l0 a) (l1 a) (l2 a) (l3 a) (l0 b) (l1 b) (l2 b) (l3 b) r0 r1 r2 r3 (settled_any _ _ _ _ _ (sm_lt _ _ _) (sm_lt _ _ _) (sm_lt _ _ _) (sm_lt _ _ _) c3 (by rw[em];omega)) w
theorem less_any(a b:Nat)(ha:a<Pp)(hb:b<Pp):Ds 99 #[U a,U b] (U ((a+(Pp-b))%Pp)):=by
 have hP:=W_P
 have c0:=bo_le (l0 a) (l0 b) 0
 have c1:=bo_le (l1 a) (l1 b) (bo (l0 a) (l0 b) 0)
 have c2:=bo_le (l2 a) (l2 b) (bo (l1 a) (l1 b) (bo (l0 a) (l0 b) 0))
 have c3:=bo_le (l3 a) (l3 b) (bo (l2 a) (l2 b) (bo (l1 a) (l1 b) (bo (l0 a) (l0 b) 0)))
 have e:=sub4 (df_bo (l0 a) (l0 b) 0 (l0_lt a) (l0_lt b) (by omega)) (df_bo (l1 a) (l1 b) _ (l1_lt a) (l1_lt b) c0) (df_bo (l2 a) (l2 b) _ (l2_lt a) (l2_lt b) c1) (df_bo (l3 a) (l3 b) _ (l3_lt a) (l3_lt b) c2)
 have r0:=sub_x (l0 a) (l0 b) 0 (by omega)
 have r1:=sub_x (l1 a) (l1 b) _ c0
 have r2:=sub_x (l2 a) (l2 b) _ c1
 have r3:=sub_x (l3 a) (l3 b) _ c2
 rw[W4] at e
 have ea:=mk_parts a (by omega)
 have eb:=mk_parts b (by omega)
 unfold mk at ea eb
 rw[ea,eb] at e
 have t0:=df_lt (l0 a) (l0 b) 0
 have t1:=df_lt (l1 a) (l1 b) (bo (l0 a) (l0 b) 0)
 have t2:=df_lt (l2 a) (l2 b) (bo (l1 a) (l1 b) (bo (l0 a) (l0 b) 0))
 have t3:=df_lt (l3 a) (l3 b) (bo (l2 a) (l2 b) (bo (l1 a) (l1 b) (bo (l0 a) (l0 b) 0)))
 generalize df (l0 a) (l0 b) 0=u0 at *
 generalize bo (l0 a) (l0 b) 0=k0 at *
 generalize df (l1 a) (l1 b) k0=u1 at *
 generalize bo (l1 a) (l1 b) k0=k1 at *
 generalize df (l2 a) (l2 b) k1=u2 at *
 generalize bo (l2 a) (l2 b) k1=k2 at *
 generalize df (l3 a) (l3 b) k2=u3 at *
 generalize bo (l3 a) (l3 b) k2=k3 at *
 have hg:k3*Gp<M:=by
  have:k3=0∨k3=1:=by omega
  rcases this with rfl | rfl<;>decide
 have d0:=bo_le u0 (k3*Gp) 0
 have d1:=bo_le u1 0 (bo u0 (k3*Gp) 0)
 have d2:=bo_le u2 0 (bo u1 0 (bo u0 (k3*Gp) 0))
 have d3:=bo_le u3 0 (bo u2 0 (bo u1 0 (bo u0 (k3*Gp) 0)))
 have e2:=sub4 (df_bo u0 (k3*Gp) 0 t0 hg (by omega)) (df_bo u1 0 _ t1 (by decide) d0) (df_bo u2 0 _ t2 (by decide) d1) (df_bo u3 0 _ t3 (by decide) d2)
 have v0:=sub_x u0 (k3*Gp) 0 (by omega)
 have v1:=sub_x u1 0 _ d0
 have v2:=sub_x u2 0 _ d1
 have v3:=sub_x u3 0 _ d2
 rw[W4] at e2
 have f0:=df_lt u0 (k3*Gp) 0
 have f1:=df_lt u1 0 (bo u0 (k3*Gp) 0)
 have f2:=df_lt u2 0 (bo u1 0 (bo u0 (k3*Gp) 0))
 have f3:=df_lt u3 0 (bo u2 0 (bo u1 0 (bo u0 (k3*Gp) 0)))
 have em:mk (df u0 (k3*Gp) 0) (df u1 0 (bo u0 (k3*Gp) 0)) (df u2 0 (bo u1 0 (bo u0 (k3*Gp) 0))) (df u3 0 (bo u2 0 (bo u1 0 (bo u0 (k3*Gp) 0))))=(a+(Pp-b))%Pp:=by
  have lu:=mk_lt _ _ _ _ f0 f1 f2 f3
  have ls:=mk_lt _ _ _ _ t0 t1 t2 t3
  unfold mk at *
  simp only[Nat.mul_zero,Nat.add_zero] at e2
  generalize df u0 (k3*Gp) 0+M*(df u1 0 (bo u0 (k3*Gp) 0)+M*(df u2 0 (bo u1 0 (bo u0 (k3*Gp) 0))+M*df u3 0 (bo u2 0 (bo u1 0 (bo u0 (k3*Gp) 0)))))=tt at *
  generalize u0+M*(u1+M*(u2+M*u3))=ss at *
  generalize bo u3 0 (bo u2 0 (bo u1 0 (bo u0 (k3*Gp) 0)))=j at *
  have hk:k3=0∨k3=1:=by omega
  have hj:j=0∨j=1:=by omega
  rcases hk with rfl | rfl
  ·rcases hj with rfl | rfl
   ·rw[show a+(Pp-b)=(a-b)+Pp by omega,Nat.add_mod_right,Nat.mod_eq_of_lt (by omega)]
    omega
   ·exfalso;omega
  ·rcases hj with rfl | rfl
   ·rw[Nat.mod_eq_of_lt (by omega)]
    omega
   ·exfalso;omega
 rw[← em,U_mk _ _ _ _ f0 f1 f2 f3]
 exact fun w=>less_raw (l0 a) (l1 a) (l2 a) (l3 a) (l0 b) (l1 b) (l2 b) (l3 b) r0 r1 r2 r3 (u_8:=k3*Gp) (by rw[IntKind.wrap_u64];unfold M Gp at hg;unfold Gp;omega) v0 v1 v2 v3 w
theorem stp4{A g x0 x1 x2 x3 b0 b1 b2 b3 h0 h1 h2 h3 p0 p1 p2 p3:Nat}(e0:A*h0+p0=x0*g+b0+0)(e1:A*h1+p1=x1*g+b1+h0)(e2:A*h2+p2=x2*g+b2+h1)(e3:A*h3+p3=x3*g+b3+h2) :
  p0+A*(p1+A*(p2+A*p3))+A*A*A*A*h3=(b0+A*(b1+A*(b2+A*b3)))+g*(x0+A*(x1+A*(x2+A*x3))):=by grind
def hs (x y c d:Nat):Nat:=(x*y+c+d)/M
def ls (x y c d:Nat):Nat:=(x*y+c+d)%M
theorem hs_ls(x y c d:Nat):M*hs x y c d+ls x y c d=x*y+c+d:=Nat.div_add_mod _ _
theorem ls_lt(x y c d:Nat):ls x y c d<M:=Nat.mod_lt _ (by decide)
theorem hs_lt{x y c d:Nat}(hx:x<M)(hy:y<M)(hc:c<M)(hd:d<M):hs x y c d<M:=by
 have hp:x*y≤(M-1)*(M-1):=Nat.mul_le_mul (by omega) (by omega)
 refine Nat.div_lt_of_lt_mul ?_
 have:(M-1)*(M-1)+(M-1)+(M-1)<M*M:=by decide
 omega
theorem step_hl(x y c d:Nat)(hx:x<M)(hy:y<M)(hc:c<M)(hd:d<M):Ds 145 #[B x,B y,B c,B d] (.tuple #[B (hs x y c d),B (ls x y c d)]):=step_any x y c d hx hy hc hd
theorem tail4{A k g p0 p1 p2 p3 p4 k4 v0 v1 v2 j0 j1 j2:Nat}(f4:A*k4+p4=k*g+p0+0)(g0:v0+A*j0=p1+k4+0)(g1:v1+A*j1=p2+0+j0)(g2:v2+A*j2=p3+0+j1) :
  p4+A*(v0+A*(v1+A*v2))+A*A*A*A*j2=p0+A*(p1+A*(p2+A*p3))+k*g:=by grind
theorem folded_parts(a0 a1 a2 a3 b0 b1 b2 b3:Nat)(ha0:a0<M)(ha1:a1<M)(ha2:a2<M)(ha3:a3<M)(hb0:b0<M)(hb1:b1<M)(hb2:b2<M)(hb3:b3<M) :
  Ds 146 #[U4 a0 a1 a2 a3,U4 b0 b1 b2 b3] (U ((mk b0 b1 b2 b3+W*mk a0 a1 a2 a3)%Pp)):=by
 have z:(0:Nat)<M:=by decide
 have h0:=hs_lt ha0 Gp_lt hb0 z
 have h1:=hs_lt ha1 Gp_lt hb1 h0
 have h2:=hs_lt ha2 Gp_lt hb2 h1
 have h3:=hs_lt ha3 Gp_lt hb3 h2
 have s0:=step_hl a0 Gp b0 0 ha0 Gp_lt hb0 z
 have s1:=step_hl a1 Gp b1 _ ha1 Gp_lt hb1 h0
 have s2:=step_hl a2 Gp b2 _ ha2 Gp_lt hb2 h1
 have s3:=step_hl a3 Gp b3 _ ha3 Gp_lt hb3 h2
 have e:=stp4 (hs_ls a0 Gp b0 0) (hs_ls a1 Gp b1 _) (hs_ls a2 Gp b2 _) (hs_ls a3 Gp b3 _)
 have q0:=ls_lt a0 Gp b0 0
 have q1:=ls_lt a1 Gp b1 (hs a0 Gp b0 0)
 have q2:=ls_lt a2 Gp b2 (hs a1 Gp b1 (hs a0 Gp b0 0))
 have q3:=ls_lt a3 Gp b3 (hs a2 Gp b2 (hs a1 Gp b1 (hs a0 Gp b0 0)))
 generalize ls a0 Gp b0 0=p0 at *
 generalize hs a0 Gp b0 0=k0 at *
 generalize ls a1 Gp b1 k0=p1 at *
 generalize hs a1 Gp b1 k0=k1 at *
 generalize ls a2 Gp b2 k1=p2 at *
 generalize hs a2 Gp b2 k1=k2 at *
 generalize ls a3 Gp b3 k2=p3 at *
 generalize hs a3 Gp b3 k2=k3 at *
 have s4:=step_hl k3 Gp p0 0 h3 Gp_lt q0 z
 have h4:=hs_lt h3 Gp_lt q0 z
 have f4:=hs_ls k3 Gp p0 0
 have q4:=ls_lt k3 Gp p0 0
 generalize ls k3 Gp p0 0=p4 at *
 generalize hs k3 Gp p0 0=k4 at *
 have c0:=cy_le p1 k4 0
 have c1:=cy_le p2 0 (cy p1 k4 0)
 have c2:=cy_le p3 0 (cy p2 0 (cy p1 k4 0))
 have r0:=add_x p1 k4 0 q1 h4 (by omega)
 have r1:=add_x p2 0 _ q2 z c0
 have r2:=add_x p3 0 _ q3 z c1
 have g0:=sm_cy p1 k4 0 q1 h4 (by omega)
 have g1:=sm_cy p2 0 _ q2 z c0
 have g2:=sm_cy p3 0 _ q3 z c1
 have u0:=sm_lt p1 k4 0
 have u1:=sm_lt p2 0 (cy p1 k4 0)
 have u2:=sm_lt p3 0 (cy p2 0 (cy p1 k4 0))
 generalize sm p1 k4 0=v0 at *
 generalize cy p1 k4 0=j0 at *
 generalize sm p2 0 j0=v1 at *
 generalize cy p2 0 j0=j1 at *
 generalize sm p3 0 j1=v2 at *
 generalize cy p3 0 j1=j2 at *
 rw[W4] at e
 have e5:p4+M*(v0+M*(v1+M*v2))+M*M*M*M*j2=p0+M*(p1+M*(p2+M*p3))+k3*Gp:=tail4 f4 g0 g1 g2
 rw[W4] at e5
 have lp:=mk_lt p0 p1 p2 p3 q0 q1 q2 q3
 have la:=mk_lt a0 a1 a2 a3 ha0 ha1 ha2 ha3
 have lb:=mk_lt b0 b1 b2 b3 hb0 hb1 hb2 hb3
 have hsum:mk p4 v0 v1 v2+W*j2=mk p0 p1 p2 p3+k3*Gp:=e5
 have hfst:mk p0 p1 p2 p3+W*k3=mk b0 b1 b2 b3+Gp*mk a0 a1 a2 a3:=e
 have hk3:k3≤Gp:=by
  have h9:Gp*mk a0 a1 a2 a3≤Gp*W:=Nat.mul_le_mul_left _ (Nat.le_of_lt la)
  have h10:W*k3<W*(Gp+1):=by rw[Nat.mul_add,Nat.mul_one,Nat.mul_comm W Gp];omega
  have:=Nat.lt_of_mul_lt_mul_left h10
  omega
 have hkG:k3*Gp≤Gp*Gp:=Nat.mul_le_mul_right _ hk3
 have hGG:=GG_lt
 have hmod:(mk p4 v0 v1 v2+W*j2)%Pp=(mk b0 b1 b2 b3+W*mk a0 a1 a2 a3)%Pp:=by
  rw[hsum]
  have k1:(mk p0 p1 p2 p3+k3*Gp)+Pp*k3=mk b0 b1 b2 b3+Gp*mk a0 a1 a2 a3:=by
   rw[← hfst,W_P,Nat.add_mul,Nat.mul_comm k3 Gp];omega
  have k2:mk b0 b1 b2 b3+W*mk a0 a1 a2 a3=(mk b0 b1 b2 b3+Gp*mk a0 a1 a2 a3)+Pp*mk a0 a1 a2 a3:=by
   rw[W_P,Nat.add_mul];omega
  rw[k2,Nat.add_mul_mod_self_left,← k1,Nat.add_mul_mod_self_left]
 rw[← hmod]
 have hset:=settled_any p4 v0 v1 v2 j2 q4 u0 u1 u2 (by omega) (by rw[hsum];omega)
 exact fun w=>folded_raw a0 a1 a2 a3 b0 b1 b2 b3 s0 s1 s2 s3 s4 r0 r1 r2 hset w
theorem row4{A x b0 b1 b2 b3 c0 c1 c2 c3 p0 p1 p2 p3 h0 h1 h2 h3:Nat}(e0:A*h0+p0=x*b0+c0+0)(e1:A*h1+p1=x*b1+c1+h0)(e2:A*h2+p2=x*b2+c2+h1)(e3:A*h3+p3=x*b3+c3+h2) :
  p0+A*(p1+A*(p2+A*(p3+A*h3)))=x*(b0+A*(b1+A*(b2+A*b3)))+(c0+A*(c1+A*(c2+A*c3))):=by grind
theorem prod4{A Y x0 x1 x2 x3 p00 p01 p02 p03 h0 p10 p11 p12 p13 h1 p20 p21 p22 p23 h2 p30 p31 p32 p33 h3:Nat}(R0:p00+A*(p01+A*(p02+A*(p03+A*h0)))=x0*Y+(0+A*(0+A*(0+A*0))))(R1:p10+A*(p11+A*(p12+A*(p13+A*h1)))=x1*Y+(p01+A*(p02+A*(p03+A*h0))))(R2:p20+A*(p21+A*(p22+A*(p23+A*h2)))=x2*Y+(p11+A*(p12+A*(p13+A*h1))))(R3:p30+A*(p31+A*(p32+A*(p33+A*h3)))=x3*Y+(p21+A*(p22+A*(p23+A*h2)))) :
  p00+A*(p10+A*(p20+A*p30))+A*A*A*A*(p31+A*(p32+A*(p33+A*h3)))=(x0+A*(x1+A*(x2+A*x3)))*Y:=by
 generalize p01+A*(p02+A*(p03+A*h0))=u0 at *
 generalize p11+A*(p12+A*(p13+A*h1))=u1 at *
 generalize p21+A*(p22+A*(p23+A*h2))=u2 at *
 generalize p31+A*(p32+A*(p33+A*h3))=u3 at *
 simp only[Nat.mul_zero,Nat.add_zero] at R0
 grind
theorem step_ex{x y c d:Nat}(hx:x<M)(hy:y<M)(hc:c<M)(hd:d<M):∃ h l,M*h+l=x*y+c+d∧h<M∧l<M∧Ds 145 #[B x,B y,B c,B d] (.tuple #[B h,B l]):=
 ⟨_,_,hs_ls x y c d,hs_lt hx hy hc hd,ls_lt x y c d,step_hl x y c d hx hy hc hd⟩
theorem product_parts(x0 x1 x2 x3 y0 y1 y2 y3:Nat)(a0:x0<M)(a1:x1<M)(a2:x2<M)(a3:x3<M)(b0:y0<M)(b1:y1<M)(b2:y2<M)(b3:y3<M) :
  Ds 126 #[U4 x0 x1 x2 x3,U4 y0 y1 y2 y3] (U (mk x0 x1 x2 x3*mk y0 y1 y2 y3%Pp)):=by
 have z:(0:Nat)<M:=by decide
 obtain ⟨h0_0,p0_0,e0_0,t0_0,q0_0,s0_0⟩:=step_ex a0 b0 z z
 obtain ⟨h0_1,p0_1,e0_1,t0_1,q0_1,s0_1⟩:=step_ex a0 b1 z t0_0
 obtain ⟨h0_2,p0_2,e0_2,t0_2,q0_2,s0_2⟩:=step_ex a0 b2 z t0_1
 obtain ⟨h0_3,p0_3,e0_3,t0_3,q0_3,s0_3⟩:=step_ex a0 b3 z t0_2
 have R0:=row4 (x:=x0) (b0:=y0) (b1:=y1) (b2:=y2) (b3:=y3) (c0:=0) (c1:=0) (c2:=0) (c3:=0) e0_0 e0_1 e0_2 e0_3
 obtain ⟨h1_0,p1_0,e1_0,t1_0,q1_0,s1_0⟩:=step_ex a1 b0 q0_1 z
 obtain ⟨h1_1,p1_1,e1_1,t1_1,q1_1,s1_1⟩:=step_ex a1 b1 q0_2 t1_0
 obtain ⟨h1_2,p1_2,e1_2,t1_2,q1_2,s1_2⟩:=step_ex a1 b2 q0_3 t1_1
 obtain ⟨h1_3,p1_3,e1_3,t1_3,q1_3,s1_3⟩:=step_ex a1 b3 t0_3 t1_2
 have R1:=row4 (x:=x1) (b0:=y0) (b1:=y1) (b2:=y2) (b3:=y3) (c0:=p0_1) (c1:=p0_2) (c2:=p0_3) (c3:=h0_3) e1_0 e1_1 e1_2 e1_3
 obtain ⟨h2_0,p2_0,e2_0,t2_0,q2_0,s2_0⟩:=step_ex a2 b0 q1_1 z
 obtain ⟨h2_1,p2_1,e2_1,t2_1,q2_1,s2_1⟩:=step_ex a2 b1 q1_2 t2_0
 obtain ⟨h2_2,p2_2,e2_2,t2_2,q2_2,s2_2⟩:=step_ex a2 b2 q1_3 t2_1
 obtain ⟨h2_3,p2_3,e2_3,t2_3,q2_3,s2_3⟩:=step_ex a2 b3 t1_3 t2_2
 have R2:=row4 (x:=x2) (b0:=y0) (b1:=y1) (b2:=y2) (b3:=y3) (c0:=p1_1) (c1:=p1_2) (c2:=p1_3) (c3:=h1_3) e2_0 e2_1 e2_2 e2_3
 obtain ⟨h3_0,p3_0,e3_0,t3_0,q3_0,s3_0⟩:=step_ex a3 b0 q2_1 z
 obtain ⟨h3_1,p3_1,e3_1,t3_1,q3_1,s3_1⟩:=step_ex a3 b1 q2_2 t3_0
 obtain ⟨h3_2,p3_2,e3_2,t3_2,q3_2,s3_2⟩:=step_ex a3 b2 q2_3 t3_1
 obtain ⟨h3_3,p3_3,e3_3,t3_3,q3_3,s3_3⟩:=step_ex a3 b3 t2_3 t3_2
 have R3:=row4 (x:=x3) (b0:=y0) (b1:=y1) (b2:=y2) (b3:=y3) (c0:=p2_1) (c1:=p2_2) (c2:=p2_3) (c3:=h2_3) e3_0 e3_1 e3_2 e3_3
 have hfin:mk p0_0 p1_0 p2_0 p3_0+W*mk p3_1 p3_2 p3_3 h3_3=mk x0 x1 x2 x3*mk y0 y1 y2 y3:=by
  unfold mk
  rw[← W4]
  exact prod4 R0 R1 R2 R3
 have hF:=folded_parts p3_1 p3_2 p3_3 h3_3 p0_0 p1_0 p2_0 p3_0 q3_1 q3_2 q3_3 t3_3 q0_0 q1_0 q2_0 q3_0
 rw[hfin] at hF
 intro w
 exact product_raw x0 x1 x2 x3 y0 y1 y2 y3 s0_0 s0_1 s0_2 s0_3 s1_0 s1_1 s1_2 s1_3 s2_0 s2_1 s2_2 s2_3 s3_0 s3_1 s3_2 s3_3 hF w
theorem product_any(a b:Nat)(ha:a<W)(hb:b<W):Ds 126 #[U a,U b] (U (a*b%Pp)):=by
 have h:=product_parts (l0 a) (l1 a) (l2 a) (l3 a) (l0 b) (l1 b) (l2 b) (l3 b) (l0_lt a) (l1_lt a) (l2_lt a) (l3_lt a) (l0_lt b) (l1_lt b) (l2_lt b) (l3_lt b)
 rw[mk_parts a ha,mk_parts b hb] at h
 exact h
end
section
open Go.RowKit Go.Sort
set_option maxRecDepth 100000
theorem prime_raw
(w:World):Calls Tryz.prog 123 #[] w fun e w'=>e=.returned (.agg #[.int .u64 18446744069414583343,.int .u64 18446744073709551615,.int .u64 18446744073709551615,.int .u64 18446744073709551615])∧Below w.heap.size w w':=
 ro [(1,[dO 24 [0,1,2,3] (xs:=[(.int .u64 18446744069414583343),(.int .u64 18446744073709551615),(.int .u64 18446744073709551615),(.int .u64 18446744073709551615)]) (bd24_0i_1i_2i_3i _ _ _ _)])] Tryz.func123
theorem order_raw
(w:World):Calls Tryz.prog 68 #[] w fun e w'=>e=.returned (.agg #[.int .u64 13822214165235122497,.int .u64 13451932020343611451,.int .u64 18446744073709551614,.int .u64 18446744073709551615])∧Below w.heap.size w w':=
 ro [(1,[dO 24 [0,1,2,3] (xs:=[(.int .u64 13822214165235122497),(.int .u64 13451932020343611451),(.int .u64 18446744073709551614),(.int .u64 18446744073709551615)]) (bd24_0i_1i_2i_3i _ _ _ _)])] Tryz.func68
theorem none_raw
(w:World):Calls Tryz.prog 130 #[] w fun e w'=>e=.returned (A9 0 0 true)∧Below w.heap.size w w':=
 ro [(1,[dO 38 [2] (xs:=[(.bool true)]) (bd38_2b _)])] Tryz.func130
theorem right_raw(x:Nat){m_0 m_1 k_2 a_3:Nat}(c1:Ds 126 #[(U x),(U x)] (U m_0))(c2:Ds 126 #[(U m_0),(U x)] (U m_1))(c3:Ds 66 #[(.int .u64 7)] (U k_2))(c4:Ds 127 #[(U m_1),(U k_2)] (U a_3))(w:World):Calls Tryz.prog 97 #[(U x)] w fun e w'=>e=.returned (U a_3)∧Below w.heap.size w w':=
 ro [(1,[nO,nO,kC Tryz.func126 c1.out,nO,kC Tryz.func126 c2.out,kC Tryz.func66 c3.out,kC Tryz.func127 c4.out])] Tryz.func97
theorem below_raw(x:Nat){p_0:Nat}{z_1:Int}(c1:Ds 123 #[] (U p_0))(c2:Ds 93 #[(U x),(U p_0)] (.int .i64 z_1))(w:World):Calls Tryz.prog 95 #[(U x)] w fun e w'=>e=.returned (.bool (decide (z_1<0)))∧Below w.heap.size w w':=
 ro [(1,[nO,kC Tryz.func123 c1.out,kC Tryz.func93 c2.out,bO .lss 3 (p:=(.int .i64 z_1)) (q:=(.int .i64 0)) (v:=(.bool (decide (z_1<0)))) (by intros;simp[go_sem])])] Tryz.func95
theorem isOdd_raw(x:Nat){u_0:Nat}{r_1:Bool}(e1:bits .and .u64 ((l0 x):Int) (1:Int)=(u_0:Int))(e2:((u_0:Int) == (1:Int))=r_1)(w:World):Calls Tryz.prog 98 #[(U x)] w fun e w'=>e=.returned (.bool r_1)∧Below w.heap.size w w':=
 ro [(1,[nO,nO,bO .and 22 (p:=(B (l0 x))) (q:=(.int .u64 1)) (v:=(B u_0)) (by intros;simp[go_sem,e1]),bO .eql 22 (p:=(B u_0)) (q:=(.int .u64 1)) (v:=(.bool r_1)) (by intros;simp[go_sem,e2])])] Tryz.func98
theorem inverse_raw(x:Nat){p_0 k_1 s_2 w_4:Nat}{q_3:Bool}(c1:Ds 123 #[] (U p_0))(c2:Ds 66 #[(.int .u64 2)] (U k_1))(c3:Ds 106 #[(U p_0),(U k_1)] (.tuple #[(U s_2),(.bool q_3)]))(c4:Ds 125 #[(U x),(U s_2)] (U w_4))(w:World):Calls Tryz.prog 131 #[(U x)] w fun e w'=>e=.returned (U w_4)∧Below w.heap.size w w':=
 ro [(1,[kC Tryz.func123 c1.out,kC Tryz.func66 c2.out,kC Tryz.func106 c3.out]),(2,[nO,nO,kC Tryz.func125 c4.out])] Tryz.func131
theorem root_no(x:Nat){p_0 k_1 s_2 h_4 w_5 m_6:Nat}{q_3:Bool}(c1:Ds 123 #[] (U p_0))(c2:Ds 66 #[(.int .u64 1)] (U k_1))(c3:Ds 124 #[(U p_0),(U k_1)] (.tuple #[(U s_2),(.bool q_3)]))(c4:Ds 122 #[(U s_2),(.int .u64 2)] (U h_4))(c5:Ds 125 #[(U x),(U h_4)] (U w_5))(c6:Ds 126 #[(U w_5),(U w_5)] (U m_6))(e7:∀ w,(Op.equalIn 10000 24 (U m_6) (U x)).run Tryz.prog w=.ok false w)(w:World):Calls Tryz.prog 96 #[(U x)] w fun e w'=>e=.returned (.tuple #[(U 0),(.bool false)])∧Below w.heap.size w w':=
 ro [(1,[kC Tryz.func123 c1.out,kC Tryz.func66 c2.out,kC Tryz.func124 c3.out]),(2,[nO,nO,kC Tryz.func122 c4.out,kC Tryz.func125 c5.out]),(3,[nO,nO,kC Tryz.func126 c6.out,nO,bO .neq 24 (p:=(U m_6)) (q:=(U x)) (v:=(.bool true)) (by intros;simp[go_sem,e7])]),(4,[dO 24 [] (xs:=[]) (bd24_)])] Tryz.func96
theorem root_yes(x:Nat){p_0 k_1 s_2 h_4 w_5 m_6:Nat}{q_3:Bool}(c1:Ds 123 #[] (U p_0))(c2:Ds 66 #[(.int .u64 1)] (U k_1))(c3:Ds 124 #[(U p_0),(U k_1)] (.tuple #[(U s_2),(.bool q_3)]))(c4:Ds 122 #[(U s_2),(.int .u64 2)] (U h_4))(c5:Ds 125 #[(U x),(U h_4)] (U w_5))(c6:Ds 126 #[(U w_5),(U w_5)] (U m_6))(e7:∀ w,(Op.equalIn 10000 24 (U m_6) (U x)).run Tryz.prog w=.ok true w)(w:World):Calls Tryz.prog 96 #[(U x)] w fun e w'=>e=.returned (.tuple #[(U w_5),(.bool true)])∧Below w.heap.size w w':=
 ro [(1,[kC Tryz.func123 c1.out,kC Tryz.func66 c2.out,kC Tryz.func124 c3.out]),(2,[nO,nO,kC Tryz.func122 c4.out,kC Tryz.func125 c5.out]),(3,[nO,nO,kC Tryz.func126 c6.out,nO,bO .neq 24 (p:=(U m_6)) (q:=(U x)) (v:=(.bool false)) (by intros;simp[go_sem,e7])])] Tryz.func96
theorem lift_high(x:Nat)(odd:Bool)(c1:Ds 95 #[(U x)] (.bool false))(w:World):Calls Tryz.prog 52 #[(U x),(.bool odd)] w fun e w'=>e=.returned (.tuple #[(A9 0 0 false),(.bool false)])∧Below w.heap.size w w':=
 ro [(1,[nO,kC Tryz.func95 c1.out,uO .not (p:=(.bool false)) (v:=(.bool true)) (by intros;simp[go_sem])]),(2,[dO 38 [] (xs:=[]) (bd38_)])] Tryz.func52
theorem lift_none(x:Nat)(odd:Bool){y_0 y_1:Nat}(c1:Ds 95 #[(U x)] (.bool true))(c2:Ds 97 #[(U x)] (U y_0))(c3:Ds 96 #[(U y_0)] (.tuple #[(U y_1),(.bool false)]))(w:World):Calls Tryz.prog 52 #[(U x),(.bool odd)] w fun e w'=>e=.returned (.tuple #[(A9 0 0 false),(.bool false)])∧Below w.heap.size w w':=
 ro [(1,[nO,kC Tryz.func95 c1.out,uO .not (p:=(.bool true)) (v:=(.bool false)) (by intros;simp[go_sem])]),(3,[nO,kC Tryz.func97 c2.out,kC Tryz.func96 c3.out]),(4,[nO,uO .not (p:=(.bool false)) (v:=(.bool true)) (by intros;simp[go_sem])]),(5,[dO 38 [] (xs:=[]) (bd38_)])] Tryz.func52
theorem lift_as(x:Nat)(odd:Bool){y_0 y_1:Nat}{o_2:Bool}(c1:Ds 95 #[(U x)] (.bool true))(c2:Ds 97 #[(U x)] (U y_0))(c3:Ds 96 #[(U y_0)] (.tuple #[(U y_1),(.bool true)]))(c4:Ds 98 #[(U y_1)] (.bool o_2))(e5:o_2=odd)(w:World):Calls Tryz.prog 52 #[(U x),(.bool odd)] w fun e w'=>e=.returned (.tuple #[(A9 x y_1 false),(.bool true)])∧Below w.heap.size w w':=
 ro [(1,[nO,kC Tryz.func95 c1.out,uO .not (p:=(.bool true)) (v:=(.bool false)) (by intros;simp[go_sem])]),(3,[nO,kC Tryz.func97 c2.out,kC Tryz.func96 c3.out]),(4,[nO,uO .not (p:=(.bool true)) (v:=(.bool false)) (by intros;simp[go_sem])]),(6,[nO,kC Tryz.func98 c4.out,nO,bO .neq 4 (p:=(.bool o_2)) (q:=(.bool odd)) (v:=(.bool false)) (by intros;simp[go_sem,e5])]),(8,[nO,nO,dO 38 [0,1] (xs:=[(U x),(U y_1)]) (bd38_0U_1U _ _)])] Tryz.func52
theorem lift_neg(x:Nat)(odd:Bool){y_0 y_1 d_3:Nat}{o_2:Bool}(c1:Ds 95 #[(U x)] (.bool true))(c2:Ds 97 #[(U x)] (U y_0))(c3:Ds 96 #[(U y_0)] (.tuple #[(U y_1),(.bool true)]))(c4:Ds 98 #[(U y_1)] (.bool o_2))(e5:¬ o_2=odd)(c6:Ds 99 #[(U 0),(U y_1)] (U d_3))(w:World):Calls Tryz.prog 52 #[(U x),(.bool odd)] w fun e w'=>e=.returned (.tuple #[(A9 x d_3 false),(.bool true)])∧Below w.heap.size w w':=
 ro [(1,[nO,kC Tryz.func95 c1.out,uO .not (p:=(.bool true)) (v:=(.bool false)) (by intros;simp[go_sem])]),(3,[nO,kC Tryz.func97 c2.out,kC Tryz.func96 c3.out]),(4,[nO,uO .not (p:=(.bool true)) (v:=(.bool false)) (by intros;simp[go_sem])]),(6,[nO,kC Tryz.func98 c4.out,nO,bO .neq 4 (p:=(.bool o_2)) (q:=(.bool odd)) (v:=(.bool true)) (by intros;simp[go_sem,e5])]),(7,[dO 24 [] (xs:=[]) (bd24_),nO,kC Tryz.func99 c6.out]),(8,[nO,nO,dO 38 [0,1] (xs:=[(U x),(U d_3)]) (bd38_0U_1U _ _)])] Tryz.func52
theorem spread_none(x y:Nat)(c1:Ds 133 #[] (A3 0 1 0))(w:World):Calls Tryz.prog 104 #[(A9 x y true)] w fun e w'=>e=.returned (A3 0 1 0)∧Below w.heap.size w w':=
 ro [(2,[kC Tryz.func133 c1.out])] Tryz.func104
theorem point_none(x y z:Nat)(e1:∀ w,(Op.equalIn 10000 24 (U z) (U 0)).run Tryz.prog w=.ok true w)(c2:Ds 130 #[] (A9 0 0 true))(w:World):Calls Tryz.prog 101 #[(A3 x y z)] w fun e w'=>e=.returned (A9 0 0 true)∧Below w.heap.size w w':=
 ro [(1,[nO,nO,dO 24 [] (xs:=[]) (bd24_),bO .eql 24 (p:=(U z)) (q:=(U 0)) (v:=(.bool true)) (by intros;simp[go_sem,e1])]),(2,[kC Tryz.func130 c2.out])] Tryz.func101
theorem spread_some(x y:Nat){k_0:Nat}(c1:Ds 66 #[(.int .u64 1)] (U k_0))(w:World):Calls Tryz.prog 104 #[(A9 x y false)] w fun e w'=>e=.returned (A3 x y k_0)∧Below w.heap.size w w':=
 ro [(3,[nO,nO,nO,nO,kC Tryz.func66 c1.out,dO 117 [0,1,2] (xs:=[(U x),(U y),(U k_0)]) (bd117_0U_1U_2U _ _ _)])] Tryz.func104
theorem point_some(x y z:Nat){v_0 m_1 m_2:Nat}(e1:∀ w,(Op.equalIn 10000 24 (U z) (U 0)).run Tryz.prog w=.ok false w)(c2:Ds 131 #[(U z)] (U v_0))(c3:Ds 126 #[(U x),(U v_0)] (U m_1))(c4:Ds 126 #[(U y),(U v_0)] (U m_2))(w:World):Calls Tryz.prog 101 #[(A3 x y z)] w fun e w'=>e=.returned (A9 m_1 m_2 false)∧Below w.heap.size w w':=
 ro [(1,[nO,nO,dO 24 [] (xs:=[]) (bd24_),bO .eql 24 (p:=(U z)) (q:=(U 0)) (v:=(.bool false)) (by intros;simp[go_sem,e1])]),(3,[nO,nO,kC Tryz.func131 c2.out]),(4,[nO,nO,nO,kC Tryz.func126 c3.out,nO,nO,nO,kC Tryz.func126 c4.out,dO 38 [0,1] (xs:=[(U m_1),(U m_2)]) (bd38_0U_1U _ _)])] Tryz.func101
theorem nought_raw{k_0:Nat}(c1:Ds 66 #[(.int .u64 1)] (U k_0))(w:World):Calls Tryz.prog 133 #[] w fun e w'=>e=.returned (A3 0 k_0 0)∧Below w.heap.size w w':=
 ro [(1,[dO 24 [] (xs:=[]) (bd24_),kC Tryz.func66 c1.out,dO 24 [] (xs:=[]) (bd24_),dO 117 [0,1,2] (xs:=[(U 0),(U k_0),(U 0)]) (bd117_0U_1U_2U _ _ _)])] Tryz.func133
theorem mul_pt_raw(k x1 y1:Nat)(n1:Bool){x_0 y_1 z_2 x_3 y_4 z_5 x_6 y_7:Nat}{n_8:Bool}(c1:Ds 104 #[(A9 x1 y1 n1)] (A3 x_0 y_1 z_2))(c2:Ds 103 #[(U k),(A3 x_0 y_1 z_2)] (A3 x_3 y_4 z_5))(c3:Ds 101 #[(A3 x_3 y_4 z_5)] (A9 x_6 y_7 n_8))(w:World):Calls Tryz.prog 75 #[(U k),(A9 x1 y1 n1)] w fun e w'=>e=.returned (A9 x_6 y_7 n_8)∧Below w.heap.size w w':=
 ro [(1,[nO,nO,kC Tryz.func104 c1.out,kC Tryz.func103 c2.out,kC Tryz.func101 c3.out])] Tryz.func75
theorem sum_pt_raw(k x1 y1 l x2 y2:Nat)(n1 n2:Bool){x_0 y_1 z_2 x_3 y_4 z_5 x_6 y_7 z_8 x_9 y_10 z_11 x_12 y_13 z_14 x_15 y_16:Nat}{n_17:Bool}(c1:Ds 104 #[(A9 x1 y1 n1)] (A3 x_0 y_1 z_2))(c2:Ds 103 #[(U k),(A3 x_0 y_1 z_2)] (A3 x_3 y_4 z_5))(c3:Ds 104 #[(A9 x2 y2 n2)] (A3 x_6 y_7 z_8))(c4:Ds 103 #[(U l),(A3 x_6 y_7 z_8)] (A3 x_9 y_10 z_11))(c5:Ds 102 #[(A3 x_3 y_4 z_5),(A3 x_9 y_10 z_11)] (A3 x_12 y_13 z_14))(c6:Ds 101 #[(A3 x_12 y_13 z_14)] (A9 x_15 y_16 n_17))(w:World):Calls Tryz.prog 54 #[(U k),(A9 x1 y1 n1),(U l),(A9 x2 y2 n2)] w fun e w'=>e=.returned (A9 x_15 y_16 n_17)∧Below w.heap.size w w':=
 ro [(1,[nO,nO,kC Tryz.func104 c1.out,kC Tryz.func103 c2.out,nO,nO,kC Tryz.func104 c3.out,kC Tryz.func103 c4.out,kC Tryz.func102 c5.out,kC Tryz.func101 c6.out])] Tryz.func54
theorem crossed_raw(a b c d e:Nat){a_0 a_1 m_2 d_3:Nat}(c1:Ds 127 #[(U a),(U b)] (U a_0))(c2:Ds 127 #[(U c),(U d)] (U a_1))(c3:Ds 126 #[(U a_0),(U a_1)] (U m_2))(c4:Ds 99 #[(U m_2),(U e)] (U d_3))(w:World):Calls Tryz.prog 132 #[(U a),(U b),(U c),(U d),(U e)] w fun e w'=>e=.returned (U d_3)∧Below w.heap.size w w':=
 ro [(1,[nO,nO,kC Tryz.func127 c1.out,nO,nO,kC Tryz.func127 c2.out,kC Tryz.func126 c3.out,nO,kC Tryz.func99 c4.out])] Tryz.func132
theorem joined_raw(x1 y1 z1 x2 y2 z2:Nat){m_0 m_1 m_2 a_3 x_4 a_5 x_6 a_7 x_8 a_9 a_10 k_11 m_12 m_13 a_14 d_15 m_16 m_17 d_18 m_19 m_20 a_21 m_22 m_23 a_24:Nat}(c1:Ds 126 #[(U x1),(U x2)] (U m_0))(c2:Ds 126 #[(U y1),(U y2)] (U m_1))(c3:Ds 126 #[(U z1),(U z2)] (U m_2))(c4:Ds 127 #[(U m_0),(U m_1)] (U a_3))(c5:Ds 132 #[(U x1),(U y1),(U x2),(U y2),(U a_3)] (U x_4))(c6:Ds 127 #[(U m_1),(U m_2)] (U a_5))(c7:Ds 132 #[(U y1),(U z1),(U y2),(U z2),(U a_5)] (U x_6))(c8:Ds 127 #[(U m_0),(U m_2)] (U a_7))(c9:Ds 132 #[(U x1),(U z1),(U x2),(U z2),(U a_7)] (U x_8))(c10:Ds 127 #[(U m_0),(U m_0)] (U a_9))(c11:Ds 127 #[(U m_0),(U a_9)] (U a_10))(c12:Ds 66 #[(.int .u64 21)] (U k_11))(c13:Ds 126 #[(U k_11),(U m_2)] (U m_12))(c14:Ds 126 #[(U k_11),(U x_8)] (U m_13))(c15:Ds 127 #[(U m_1),(U m_12)] (U a_14))(c16:Ds 99 #[(U m_1),(U m_12)] (U d_15))(c17:Ds 126 #[(U x_4),(U d_15)] (U m_16))(c18:Ds 126 #[(U x_6),(U m_13)] (U m_17))(c19:Ds 99 #[(U m_16),(U m_17)] (U d_18))(c20:Ds 126 #[(U a_14),(U d_15)] (U m_19))(c21:Ds 126 #[(U a_10),(U m_13)] (U m_20))(c22:Ds 127 #[(U m_19),(U m_20)] (U a_21))(c23:Ds 126 #[(U x_6),(U a_14)] (U m_22))(c24:Ds 126 #[(U a_10),(U x_4)] (U m_23))(c25:Ds 127 #[(U m_22),(U m_23)] (U a_24))(w:World):Calls Tryz.prog 102 #[(A3 x1 y1 z1),(A3 x2 y2 z2)] w fun e w'=>e=.returned (A3 d_18 a_21 a_24)∧Below w.heap.size w w':=
 ro [(1,[nO,nO,nO,nO,kC Tryz.func126 c1.out,nO,nO,nO,nO,kC Tryz.func126 c2.out,nO,nO,nO,nO,kC Tryz.func126 c3.out]),(2,[nO,nO,nO,nO,nO,nO,nO,nO,nO,nO,kC Tryz.func127 c4.out,kC Tryz.func132 c5.out]),(3,[nO,nO,nO,nO,nO,nO,nO,nO,nO,nO,kC Tryz.func127 c6.out,kC Tryz.func132 c7.out]),(4,[nO,nO,nO,nO,nO,nO,nO,nO,nO,nO,kC Tryz.func127 c8.out,kC Tryz.func132 c9.out]),(5,[nO,nO,nO,kC Tryz.func127 c10.out,kC Tryz.func127 c11.out]),(6,[kC Tryz.func66 c12.out,nO,kC Tryz.func126 c13.out]),(7,[kC Tryz.func66 c12.out,nO,kC Tryz.func126 c14.out]),(8,[nO,nO,kC Tryz.func127 c15.out,nO,nO,kC Tryz.func99 c16.out]),(9,[nO,nO,kC Tryz.func126 c17.out,nO,nO,kC Tryz.func126 c18.out,kC Tryz.func99 c19.out,nO,nO,kC Tryz.func126 c20.out,nO,nO,kC Tryz.func126 c21.out,kC Tryz.func127 c22.out,nO,nO,kC Tryz.func126 c23.out,nO,nO,kC Tryz.func126 c24.out,kC Tryz.func127 c25.out,dO 117 [0,1,2] (xs:=[(U d_18),(U a_21),(U a_24)]) (bd117_0U_1U_2U _ _ _)])] Tryz.func102
end
end Go.Proofs.YtfhppenjbmmadaaGreatDoor
