import Derived.Test.YtfhppenjbmmadaaGreatDoorXmM28
import Derived.Test.YtfhppenjbmmadaaGreatDoorXmM18
namespace Go.Proofs.YtfhppenjbmmadaaGreatDoor
set_option linter.unusedVariables false
set_option maxHeartbeats 8000000
section
section
variable [NeZero Pp]
abbrev F:Type:=Fin Pp
def jx (x1 y1 z1 x2 y2 z2:Fin Pp):Fin Pp:=(x1*y2+x2*y1)*(y1*y2-21*(z1*z2))-(y1*z2+y2*z1)*(21*(x1*z2+x2*z1))
def jy (x1 y1 z1 x2 y2 z2:Fin Pp):Fin Pp:=(y1*y2+21*(z1*z2))*(y1*y2-21*(z1*z2))+3*(x1*x2)*(21*(x1*z2+x2*z1))
def jz (x1 y1 z1 x2 y2 z2:Fin Pp):Fin Pp:=(y1*z2+y2*z1)*(y1*y2+21*(z1*z2))+3*(x1*x2)*(x1*y2+x2*y1)
structure Fc (iv:Fin Pp→Fin Pp):Prop where
 nz:∀ a b:Fin Pp,a*b=0→a=0∨b=0
 nc:∀ x:Fin Pp,x*x*x+7≠0
 inv:∀ a:Fin Pp,a≠0→a*iv a=1
 n2:(2:Fin Pp)≠0
 n7:(7:Fin Pp)≠0
abbrev T3p:Type:=Fin Pp×Fin Pp×Fin Pp
def J3 (a b:T3p):T3p:=(jx a.1 a.2.1 a.2.2 b.1 b.2.1 b.2.2,jy a.1 a.2.1 a.2.2 b.1 b.2.1 b.2.2,jz a.1 a.2.1 a.2.2 b.1 b.2.1 b.2.2)
def onT (a:T3p):Prop:=a.2.1*a.2.1*a.2.2=a.1*(a.1*a.1)+7*a.2.2*(a.2.2*a.2.2)
def nzT (a:T3p):Prop:=¬ (a.1=0∧a.2.1=0∧a.2.2=0)
def like (a b:T3p):Prop:=a.1*b.2.1-a.2.1*b.1=0∧a.1*b.2.2-a.2.2*b.1=0∧a.2.1*b.2.2-a.2.2*b.2.1=0
def sc (l:Fin Pp) (a:T3p):T3p:=(l*a.1,l*a.2.1,l*a.2.2)
def aff (x y:Fin Pp):T3p:=(x,y,1)
def nou:T3p:=(0,1,0)
theorem J3_comm(a b:T3p):J3 a b=J3 b a:=by
 unfold J3 jx jy jz
 refine Prod.ext ?_ (Prod.ext ?_ ?_)<;>(simp only[];grind)
theorem J3_sc(l:Fin Pp)(a b:T3p):J3 (sc l a) b=sc (l*l) (J3 a b):=by
 unfold J3 jx jy jz sc
 refine Prod.ext ?_ (Prod.ext ?_ ?_)<;>(simp only[];grind)
theorem J3_nou(a:T3p):J3 nou a=sc a.2.1 a:=by
 obtain ⟨x,y,z⟩:=a
 unfold J3 jx jy jz sc nou
 refine Prod.ext ?_ (Prod.ext ?_ ?_)<;>(simp only[];grind)
theorem sc_sc(k l:Fin Pp)(a:T3p):sc k (sc l a)=sc (k*l) a:=by
 unfold sc
 refine Prod.ext ?_ (Prod.ext ?_ ?_)<;>(simp only[];grind)
theorem like_sc(l:Fin Pp)(a:T3p):like (sc l a) a:=by
 unfold like sc
 refine ⟨?_,?_,?_⟩<;>(simp only[];grind)
abbrev Pt:Type:=Option (Fin Pp×Fin Pp)
def onP:Pt→Prop
 | none=>True
 | some (x,y)=>y*y=x*x*x+7
def spr:Pt→T3p
 | none=>nou
 | some (x,y)=>aff x y
def nrm (iv:Fin Pp→Fin Pp) (a:T3p):Pt:=if a.2.2=0 then none else some (a.1*iv a.2.2,a.2.1*iv a.2.2)
def padd (iv:Fin Pp→Fin Pp) (P Q:Pt):Pt:=nrm iv (J3 (spr P) (spr Q))
def pneg:Pt→Pt
 | none=>none
 | some (x,y)=>some (x,- y)
variable {iv:Fin Pp→Fin Pp}
theorem Fc.n1(H:Fc iv):(1:Fin Pp)≠0:=fun e=>H.n2 (by grind)
theorem nrm_like(H:Fc iv){a b:T3p}(ha:nzT a)(hb:nzT b)(h:like a b):nrm iv a=nrm iv b:=by
 obtain ⟨x1,y1,z1⟩:=a
 obtain ⟨x2,y2,z2⟩:=b
 unfold like at h
 unfold nzT at ha hb
 unfold nrm
 simp only[] at *
 obtain ⟨e1,e2,e3⟩:=h
 by_cases hz:z1=0
 ·have h2:z2=0:=by
   rw[hz] at e2 e3
   have k2:x1*z2=0:=by grind
   have k3:y1*z2=0:=by grind
   rcases H.nz _ _ k2 with h | h
   ·rcases H.nz _ _ k3 with h' | h'
    ·exact absurd ⟨h,h',hz⟩ ha
    ·exact h'
   ·exact h
  rw[if_pos hz,if_pos h2]
 ·have h2:z2≠0:=by
   intro h2
   rw[h2] at e2 e3
   have k2:z1*x2=0:=by grind
   have k3:z1*y2=0:=by grind
   rcases H.nz _ _ k2 with h | h
   ·exact hz h
   ·rcases H.nz _ _ k3 with h' | h'
    ·exact hz h'
    ·exact hb ⟨h,h',h2⟩
  rw[if_neg hz,if_neg h2]
  have i1:=H.inv z1 hz
  have i2:=H.inv z2 h2
  have k1:x1*iv z1=x2*iv z2:=by grind
  have k2:y1*iv z1=y2*iv z2:=by grind
  rw[k1,k2]
theorem sc_nz(H:Fc iv){l:Fin Pp}{a:T3p}(hl:l≠0)(ha:nzT a):nzT (sc l a):=by
 unfold nzT sc at *
 simp only[]
 rintro ⟨e1,e2,e3⟩
 refine ha ⟨?_,?_,?_⟩
 ·exact (H.nz _ _ e1).resolve_left hl
 ·exact (H.nz _ _ e2).resolve_left hl
 ·exact (H.nz _ _ e3).resolve_left hl
theorem spr_nz(H:Fc iv)(P:Pt):nzT (spr P):=by
 cases P with
 | none=>exact fun h=>H.n1 h.2.1
 | some p=>exact fun h=>H.n1 h.2.2
theorem spr_on{P:Pt}(h:onP P):onT (spr P):=by
 cases P with
 | none=>show (1:Fin Pp)*1*0=0*(0*0)+7*0*(0*0);rw[m_z,z_m,m_z,z_m,Fin.add_zero]
 | some p=>
  have h':p.2*p.2=p.1*p.1*p.1+7:=h
  show p.2*p.2*1=p.1*(p.1*p.1)+7*1*(1*1)
  grind
theorem of_nrm(H:Fc iv){t:T3p}(ht:onT t)(hn:nzT t):∃ l,l≠0∧t=sc l (spr (nrm iv t))∧onP (nrm iv t):=by
 obtain ⟨x,y,z⟩:=t
 unfold onT at ht
 unfold nzT at hn
 simp only[] at ht hn
 unfold nrm
 simp only[]
 by_cases hz:z=0
 ·rw[if_pos hz]
  rw[hz] at ht
  have hx:x=0:=by
   have k:x*(x*x)=0:=by grind
   rcases H.nz _ _ k with h | h
   ·exact h
   ·rcases H.nz _ _ h with h | h<;>exact h
  refine ⟨y,fun e=>hn ⟨hx,e,hz⟩,?_,trivial⟩
  unfold sc spr nou
  refine Prod.ext ?_ (Prod.ext ?_ ?_)<;>(simp only[];grind)
 ·rw[if_neg hz]
  have i:=H.inv z hz
  refine ⟨z,hz,?_,?_⟩
  ·unfold sc spr aff
   refine Prod.ext ?_ (Prod.ext ?_ ?_)<;>(simp only[];grind)
  ·show (y*iv z)*(y*iv z)=(x*iv z)*(x*iv z)*(x*iv z)+7
   grind
end
end
section
section
variable [NeZero Pp]
theorem J_of{a b c d e f xy yz xw xz xv xx yy zw zz m g X Y Z:Fin Pp}(h1:xy=a*e+d*b)(h2:yz=b*f+e*c)(h3:xw=a*f+d*c)(h4:xz=21*xw)(h5:xv=a*d)(h6:xx=3*xv)(h7:yy=b*e)(h8:zw=c*f)(h9:zz=21*zw)(h10:m=yy+zz)(h11:g=yy-zz)(hX:X=xy*g-yz*xz)(hY:Y=m*g+xx*xz)(hZ:Z=yz*m+xx*xy):(X,Y,Z)=J3 (a,b,c) (d,e,f):=by
 subst h1 h2 h3 h4 h5 h6 h7 h8 h9 h10 h11 hX hY hZ
 unfold J3 jx jy jz
 refine Prod.ext ?_ (Prod.ext ?_ ?_)<;>(simp only[])
variable (v:Nat→Fin Pp)
theorem e_X1:eQ3 v pX1=v 0:=by
 simp only[pX1,eQ3,eP3,eQ2,eP2,eQ1,eP1,cf_zero,cf_one]
 grind
theorem e_Y1:eQ3 v pY1=v 1:=by
 simp only[pY1,eQ3,eP3,eQ2,eP2,eQ1,eP1,cf_one]
 grind
theorem e_X2:eQ3 v pX2=v 2:=by
 simp only[pX2,eQ3,eP3,eQ2,eP2,eQ1,eP1,cf_one]
 grind
theorem e_Y2:eQ3 v pY2=v 3:=by
 simp only[pY2,eQ3,eP3,eQ2,eP2,eQ1,eP1,cf_one]
 grind
theorem e_X3:eQ3 v pX3=v 4:=by
 simp only[pX3,eQ3,eP3,eQ2,eP2,eQ1,eP1,cf_one]
 grind
theorem e_Y3:eQ3 v pY3=v 5:=by
 simp only[pY3,eQ3,eP3,eQ2,eP2,eQ1,eP1,cf_one]
 grind
theorem cf_N1:cf (N 1) = - 1:=by
 have h:cf (N 1)+cf 1=0:=by
  rw[← cf_add,← cf_mod,show (N 1+1)%Pp=0 by decide +kernel,cf_zero]
 rw[cf_one] at h
 grind
theorem e_M2:eQ3 v pM2 = - v 3:=by
 simp only[pM2,eQ3,eP3,eQ2,eP2,eQ1,eP1,cf_N1]
 grind
theorem e_K1:eQ3 v pK1=1:=k3_ev v 1
theorem e_K3:eQ3 v pK3=3:=k3_ev v 3
theorem e_K21:eQ3 v pK21=21:=k3_ev v 21
theorem e_K7:eQ3 v pK7=7:=k3_ev v 7
theorem e_zero:eQ3 v ([],[])=0:=eQ3_zero v
theorem j_S(h1:v 1*v 1=v 0*v 0*v 0+7)(h2:v 3*v 3=v 2*v 2*v 2+7)(h3:v 5*v 5=v 4*v 4*v 4+7):(eQ3 v pSx,eQ3 v pSy,eQ3 v pSz)=J3 (eQ3 v pX1,eQ3 v pY1,eQ3 v pK1) (eQ3 v pX2,eQ3 v pM2,eQ3 v pK1):=J_of (t_ms v h1 h2 h3 d_Sxy) (t_ms v h1 h2 h3 d_Syz) (t_ms v h1 h2 h3 d_Sxw) ((t_mm v h1 h2 h3 d_Sxz).trans (by rw[e_K21])) (t_mm v h1 h2 h3 d_Sxv) ((t_mm v h1 h2 h3 d_Sxx).trans (by rw[e_K3])) (t_mm v h1 h2 h3 d_Syy) (t_mm v h1 h2 h3 d_Szw) ((t_mm v h1 h2 h3 d_Szz).trans (by rw[e_K21])) (t_aa v d_Sm) (t_ad v d_Sf) (t_md v h1 h2 h3 d_Sx) (t_ms v h1 h2 h3 d_Sy) (t_ms v h1 h2 h3 d_Sz)
theorem j_T(h1:v 1*v 1=v 0*v 0*v 0+7)(h2:v 3*v 3=v 2*v 2*v 2+7)(h3:v 5*v 5=v 4*v 4*v 4+7):(eQ3 v pTx,eQ3 v pTy,eQ3 v pTz)=J3 (eQ3 v pX2,eQ3 v pY2,eQ3 v pK1) (eQ3 v pX3,eQ3 v pY3,eQ3 v pK1):=J_of (t_ms v h1 h2 h3 d_Txy) (t_ms v h1 h2 h3 d_Tyz) (t_ms v h1 h2 h3 d_Txw) ((t_mm v h1 h2 h3 d_Txz).trans (by rw[e_K21])) (t_mm v h1 h2 h3 d_Txv) ((t_mm v h1 h2 h3 d_Txx).trans (by rw[e_K3])) (t_mm v h1 h2 h3 d_Tyy) (t_mm v h1 h2 h3 d_Tzw) ((t_mm v h1 h2 h3 d_Tzz).trans (by rw[e_K21])) (t_aa v d_Tm) (t_ad v d_Tf) (t_md v h1 h2 h3 d_Tx) (t_ms v h1 h2 h3 d_Ty) (t_ms v h1 h2 h3 d_Tz)
theorem j_L(h1:v 1*v 1=v 0*v 0*v 0+7)(h2:v 3*v 3=v 2*v 2*v 2+7)(h3:v 5*v 5=v 4*v 4*v 4+7):(eQ3 v pLx,eQ3 v pLy,eQ3 v pLz)=J3 (eQ3 v pX1,eQ3 v pY1,eQ3 v pK1) (eQ3 v pX3,eQ3 v pY3,eQ3 v pK1):=J_of (t_ms v h1 h2 h3 d_Lxy) (t_ms v h1 h2 h3 d_Lyz) (t_ms v h1 h2 h3 d_Lxw) ((t_mm v h1 h2 h3 d_Lxz).trans (by rw[e_K21])) (t_mm v h1 h2 h3 d_Lxv) ((t_mm v h1 h2 h3 d_Lxx).trans (by rw[e_K3])) (t_mm v h1 h2 h3 d_Lyy) (t_mm v h1 h2 h3 d_Lzw) ((t_mm v h1 h2 h3 d_Lzz).trans (by rw[e_K21])) (t_aa v d_Lm) (t_ad v d_Lf) (t_md v h1 h2 h3 d_Lx) (t_ms v h1 h2 h3 d_Ly) (t_ms v h1 h2 h3 d_Lz)
theorem j_R(h1:v 1*v 1=v 0*v 0*v 0+7)(h2:v 3*v 3=v 2*v 2*v 2+7)(h3:v 5*v 5=v 4*v 4*v 4+7):(eQ3 v pRx,eQ3 v pRy,eQ3 v pRz)=J3 (eQ3 v pSx,eQ3 v pSy,eQ3 v pSz) (eQ3 v pTx,eQ3 v pTy,eQ3 v pTz):=J_of (t_ms v h1 h2 h3 d_Rxy) (t_ms v h1 h2 h3 d_Ryz) (t_ms v h1 h2 h3 d_Rxw) ((t_mm v h1 h2 h3 d_Rxz).trans (by rw[e_K21])) (t_mm v h1 h2 h3 d_Rxv) ((t_mm v h1 h2 h3 d_Rxx).trans (by rw[e_K3])) (t_mm v h1 h2 h3 d_Ryy) (t_mm v h1 h2 h3 d_Rzw) ((t_mm v h1 h2 h3 d_Rzz).trans (by rw[e_K21])) (t_aa v d_Rm) (t_ad v d_Rf) (t_md v h1 h2 h3 d_Rx) (t_ms v h1 h2 h3 d_Ry) (t_ms v h1 h2 h3 d_Rz)
theorem j_B(h1:v 1*v 1=v 0*v 0*v 0+7)(h2:v 3*v 3=v 2*v 2*v 2+7)(h3:v 5*v 5=v 4*v 4*v 4+7):(eQ3 v pBx,eQ3 v pBy,eQ3 v pBz)=J3 (eQ3 v pX1,eQ3 v pY1,eQ3 v pK1) (eQ3 v pX2,eQ3 v pY2,eQ3 v pK1):=J_of (t_ms v h1 h2 h3 d_Bxy) (t_ms v h1 h2 h3 d_Byz) (t_ms v h1 h2 h3 d_Bxw) ((t_mm v h1 h2 h3 d_Bxz).trans (by rw[e_K21])) (t_mm v h1 h2 h3 d_Bxv) ((t_mm v h1 h2 h3 d_Bxx).trans (by rw[e_K3])) (t_mm v h1 h2 h3 d_Byy) (t_mm v h1 h2 h3 d_Bzw) ((t_mm v h1 h2 h3 d_Bzz).trans (by rw[e_K21])) (t_aa v d_Bm) (t_ad v d_Bf) (t_md v h1 h2 h3 d_Bx) (t_ms v h1 h2 h3 d_By) (t_ms v h1 h2 h3 d_Bz)
theorem j_C(h1:v 1*v 1=v 0*v 0*v 0+7)(h2:v 3*v 3=v 2*v 2*v 2+7)(h3:v 5*v 5=v 4*v 4*v 4+7):(eQ3 v pCx,eQ3 v pCy,eQ3 v pCz)=J3 (eQ3 v pBx,eQ3 v pBy,eQ3 v pBz) (eQ3 v pX2,eQ3 v pM2,eQ3 v pK1):=J_of (t_ms v h1 h2 h3 d_Cxy) (t_ms v h1 h2 h3 d_Cyz) (t_ms v h1 h2 h3 d_Cxw) ((t_mm v h1 h2 h3 d_Cxz).trans (by rw[e_K21])) (t_mm v h1 h2 h3 d_Cxv) ((t_mm v h1 h2 h3 d_Cxx).trans (by rw[e_K3])) (t_mm v h1 h2 h3 d_Cyy) (t_mm v h1 h2 h3 d_Czw) ((t_mm v h1 h2 h3 d_Czz).trans (by rw[e_K21])) (t_aa v d_Cm) (t_ad v d_Cf) (t_md v h1 h2 h3 d_Cx) (t_ms v h1 h2 h3 d_Cy) (t_ms v h1 h2 h3 d_Cz)
theorem id_assoc(h1:v 1*v 1=v 0*v 0*v 0+7)(h2:v 3*v 3=v 2*v 2*v 2+7)(h3:v 5*v 5=v 4*v 4*v 4+7):like (J3 (aff (v 0) (v 1)) (aff (v 4) (v 5))) (J3 (J3 (aff (v 0) (v 1)) (aff (v 2) (- v 3))) (J3 (aff (v 2) (v 3)) (aff (v 4) (v 5)))):=by
 have hS:=j_S v h1 h2 h3
 have hT:=j_T v h1 h2 h3
 have hL:=j_L v h1 h2 h3
 have hR:=j_R v h1 h2 h3
 have z1:=t_md v h1 h2 h3 d_Z1
 have z2:=t_md v h1 h2 h3 d_Z2
 have z3:=t_md v h1 h2 h3 d_Z3
 rw[show pZ1=([],[]) from rfl,e_zero] at z1
 rw[show pZ2=([],[]) from rfl,e_zero] at z2
 rw[show pZ3=([],[]) from rfl,e_zero] at z3
 rw[hS,hT] at hR
 simp only[e_X1,e_Y1,e_X2,e_Y2,e_X3,e_Y3,e_M2,e_K1] at hL hR
 unfold aff
 rw[← hL,← hR]
 exact ⟨z1.symm,z2.symm,z3.symm⟩
theorem id_cancel(h1:v 1*v 1=v 0*v 0*v 0+7)(h2:v 3*v 3=v 2*v 2*v 2+7)(h3:v 5*v 5=v 4*v 4*v 4+7):like (J3 (J3 (aff (v 0) (v 1)) (aff (v 2) (v 3))) (aff (v 2) (- v 3))) (aff (v 0) (v 1)):=by
 have hB:=j_B v h1 h2 h3
 have hC:=j_C v h1 h2 h3
 have z1:=t_md v h1 h2 h3 d_W1
 have z2:=t_md v h1 h2 h3 d_W2
 have z3:=t_md v h1 h2 h3 d_W3
 rw[show pW1=([],[]) from rfl,e_zero] at z1
 rw[show pW2=([],[]) from rfl,e_zero] at z2
 rw[show pW3=([],[]) from rfl,e_zero] at z3
 rw[hB] at hC
 simp only[e_X1,e_Y1,e_X2,e_Y2,e_M2,e_K1] at hC z1 z2 z3
 unfold aff
 rw[← hC]
 exact ⟨z1.symm,z2.symm,z3.symm⟩
theorem id_on(h1:v 1*v 1=v 0*v 0*v 0+7)(h2:v 3*v 3=v 2*v 2*v 2+7)(h3:v 5*v 5=v 4*v 4*v 4+7):onT (J3 (aff (v 0) (v 1)) (aff (v 2) (v 3))):=by
 have hB:=j_B v h1 h2 h3
 have o1:=t_mm v h1 h2 h3 d_Oyy
 have o2:=t_mm v h1 h2 h3 d_Oxx
 have o3:=t_mm v h1 h2 h3 d_Ozz
 have o4:=t_mm v h1 h2 h3 d_O7
 have o5:=t_ms v h1 h2 h3 d_Or
 have o6:=t_mm v h1 h2 h3 d_Ol
 have o7:=qQ3_ev v _ _ d_on
 simp only[e_X1,e_Y1,e_X2,e_Y2,e_K1] at hB
 unfold aff
 rw[← hB]
 show eQ3 v pBy*eQ3 v pBy*eQ3 v pBz=eQ3 v pBx*(eQ3 v pBx*eQ3 v pBx)+7*eQ3 v pBz*(eQ3 v pBz*eQ3 v pBz)
 rw[e_K7] at o4
 rw[← o1,← o6,o7,o5,o2,o4,o3]
end
end
section
section
variable [NeZero Pp] {iv:Fin Pp→Fin Pp}
def v6 (a b c d e f:Fin Pp):Nat→Fin Pp
 | 0=>a | 1=>b | 2=>c | 3=>d | 4=>e | _=>f
theorem y_nz(H:Fc iv){x y:Fin Pp}(h:y*y=x*x*x+7):y≠0:=fun e=>H.nc x (by rw[← h,e];exact m_z 0)
theorem z_of_cube(H:Fc iv){X Z:Fin Pp}(h:X*(X*X)+7*Z*(Z*Z)=0):Z=0:=by
 apply Classical.byContradiction
 intro hz
 have i:=H.inv Z hz
 exact H.nc (X*iv Z) (by grind)
theorem J_on{x1 y1 x2 y2:Fin Pp}(h1:y1*y1=x1*x1*x1+7)(h2:y2*y2=x2*x2*x2+7):onT (J3 (aff x1 y1) (aff x2 y2)):=id_on (v6 x1 y1 x2 y2 x1 y1) h1 h2 h1
theorem r_A(x1 y1 x2 y2:Fin Pp):jz x1 y1 1 x2 y2 1+jz x1 y1 1 x2 (- y2) 1=2*(y1*(21+y2*y2+3*x1*(x2*x2))):=by unfold jz;grind
theorem r_B(x1 y1 x2 y2:Fin Pp):jz x1 y1 1 x2 y2 1-jz x1 y1 1 x2 (- y2) 1=2*(y2*(21+y1*y1+3*x2*(x1*x1))):=by unfold jz;grind
theorem r_Y(x1 y1 x2 y2:Fin Pp):jy x1 y1 1 x2 (- y2) 1=jy x1 y1 1 x2 y2 1:=by unfold jy;grind
theorem r_C(c:Fin Pp):756*(c*c)+(- (28+c))*((- (28+c))*(- (28+c)))+9*c*((- (28+c))*(- (28+c)))=2*(2*(2*((c+7)*(c*c+140*c-392)))):=by grind
theorem r_D(x1 x2:Fin Pp):27*(x1*x1*x1*(x1*x1*x1))*(21+(x2*x2*x2+7)+3*x1*(x2*x2))=756*(x1*x1*x1*(x1*x1*x1))+(3*x2*(x1*x1))*((3*x2*(x1*x1))*(3*x2*(x1*x1)))+9*(x1*x1*x1)*((3*x2*(x1*x1))*(3*x2*(x1*x1))):=by grind
theorem r_E(x y:Fin Pp):jy x y 1 x y 1=(y*y)*(y*y)-441+126*(x*x*x):=by unfold jy;grind
theorem r_F(x y:Fin Pp):jz x y 1 x y 1=2*(y*(y*y+21+3*(x*x*x))):=by unfold jz;grind
theorem r_G(c:Fin Pp):(c+7)*(c+7)-441+126*c=c*c+140*c-392:=by grind
theorem r_H(a w:Fin Pp)(h:21+(a+7)+w=0):w = - (28+a):=by grind
theorem r_I(a b:Fin Pp)(h:b=a+7):b+21+3*a=2*(2*b):=by grind
theorem J_nz(H:Fc iv){x1 y1 x2 y2:Fin Pp}(h1:y1*y1=x1*x1*x1+7)(h2:y2*y2=x2*x2*x2+7):nzT (J3 (aff x1 y1) (aff x2 y2)):=by
 rintro ⟨eX,eY,eZ⟩
 have h2n:(- y2)*(- y2)=x2*x2*x2+7:=by rw[← h2];grind
 have o:=J_on h1 h2n
 have eY0:jy x1 y1 1 x2 y2 1=0:=eY
 have eZ0:jz x1 y1 1 x2 y2 1=0:=eZ
 have o':jy x1 y1 1 x2 (- y2) 1*jy x1 y1 1 x2 (- y2) 1*jz x1 y1 1 x2 (- y2) 1=jx x1 y1 1 x2 (- y2) 1*(jx x1 y1 1 x2 (- y2) 1*jx x1 y1 1 x2 (- y2) 1)+7*jz x1 y1 1 x2 (- y2) 1*(jz x1 y1 1 x2 (- y2) 1*jz x1 y1 1 x2 (- y2) 1):=o
 rw[r_Y,eY0,m_z,z_m] at o'
 have eZ':jz x1 y1 1 x2 (- y2) 1=0:=z_of_cube H o'.symm
 have n1:=y_nz H h1
 have n2:=y_nz H h2
 have kA:=r_A x1 y1 x2 y2
 have kB:=r_B x1 y1 x2 y2
 rw[eZ0,eZ',Fin.add_zero] at kA
 rw[eZ0,eZ',Fin.sub_self] at kB
 have A:=(H.nz _ _ ((H.nz _ _ kA.symm).resolve_left H.n2)).resolve_left n1
 have B:=(H.nz _ _ ((H.nz _ _ kB.symm).resolve_left H.n2)).resolve_left n2
 rw[h2] at A
 rw[h1] at B
 have B':=r_H _ _ B
 have D:=r_D x1 x2
 rw[A,m_z,B'] at D
 rw[r_C] at D
 have k1:=(H.nz _ _ D.symm).resolve_left H.n2
 have k2:=(H.nz _ _ k1).resolve_left H.n2
 have k3:=(H.nz _ _ k2).resolve_left H.n2
 have k4:=(H.nz _ _ k3).resolve_left (H.nc x1)
 have od:jy x1 y1 1 x1 y1 1*jy x1 y1 1 x1 y1 1*jz x1 y1 1 x1 y1 1=jx x1 y1 1 x1 y1 1*(jx x1 y1 1 x1 y1 1*jx x1 y1 1 x1 y1 1)+7*jz x1 y1 1 x1 y1 1*(jz x1 y1 1 x1 y1 1*jz x1 y1 1 x1 y1 1):=J_on h1 h1
 rw[r_E,h1,r_G,k4,m_z,z_m] at od
 have dz:=z_of_cube H od.symm
 rw[r_F,r_I _ _ h1] at dz
 have q1:=(H.nz _ _ dz).resolve_left H.n2
 have q2:=(H.nz _ _ q1).resolve_left n1
 have q3:=(H.nz _ _ q2).resolve_left H.n2
 have q4:=(H.nz _ _ q3).resolve_left H.n2
 rcases H.nz _ _ q4 with k | k<;>exact n1 k
theorem sc_on{l:Fin Pp}{a:T3p}(h:onT a):onT (sc l a):=by
 obtain ⟨x,y,z⟩:=a
 unfold onT sc at *
 simp only[] at *
 grind
theorem spr_y(H:Fc iv){P:Pt}(h:onP P):(spr P).2.1≠0:=by
 cases P with
 | none=>exact H.n1
 | some p=>exact y_nz H h
theorem Jspr(H:Fc iv){P Q:Pt}(hP:onP P)(hQ:onP Q):onT (J3 (spr P) (spr Q))∧nzT (J3 (spr P) (spr Q)):=by
 cases P with
 | none=>
  show onT (J3 nou (spr Q))∧nzT (J3 nou (spr Q))
  rw[J3_nou]
  exact ⟨sc_on (spr_on hQ),sc_nz H (spr_y H hQ) (spr_nz H Q)⟩
 | some p=>
  cases Q with
  | none=>
   show onT (J3 (spr (some p)) nou)∧nzT (J3 (spr (some p)) nou)
   rw[J3_comm,J3_nou]
   exact ⟨sc_on (spr_on hP),sc_nz H (spr_y H hP) (spr_nz H _)⟩
  | some q=>exact ⟨J_on hP hQ,J_nz H hP hQ⟩
theorem nrm_sc(H:Fc iv){l:Fin Pp}{a:T3p}(hl:l≠0)(ha:nzT a):nrm iv (sc l a)=nrm iv a:=nrm_like H (sc_nz H hl ha) ha (like_sc l a)
theorem nrm_spr(H:Fc iv)(P:Pt):nrm iv (spr P)=P:=by
 cases P with
 | none=>unfold nrm spr nou;rw[if_pos rfl]
 | some p=>
  obtain ⟨x,y⟩:=p
  have i:=H.inv 1 H.n1
  unfold nrm spr aff
  simp only[]
  rw[if_neg H.n1]
  have e1:x*iv 1=x:=by grind
  have e2:y*iv 1=y:=by grind
  rw[e1,e2]
theorem padd_on(H:Fc iv){P Q:Pt}(hP:onP P)(hQ:onP Q):onP (padd iv P Q):=by
 obtain ⟨l,_,_,h⟩:=of_nrm H (Jspr H hP hQ).1 (Jspr H hP hQ).2
 exact h
theorem padd_comm(P Q:Pt):padd iv P Q=padd iv Q P:=by unfold padd;rw[J3_comm]
theorem padd_none(H:Fc iv){P:Pt}(hP:onP P):padd iv none P=P:=by
 show nrm iv (J3 nou (spr P))=P
 rw[J3_nou,nrm_sc H (spr_y H hP) (spr_nz H P),nrm_spr H]
theorem padd_nrm(H:Fc iv){t:T3p}(ht:onT t)(hn:nzT t){Q:Pt}(hQ:onP Q):padd iv (nrm iv t) Q=nrm iv (J3 t (spr Q)):=by
 obtain ⟨l,hl,e,ho⟩:=of_nrm H ht hn
 have h2:J3 t (spr Q)=sc (l*l) (J3 (spr (nrm iv t)) (spr Q)):=by
  have:=J3_sc l (spr (nrm iv t)) (spr Q)
  rw[← e] at this
  exact this
 rw[h2,nrm_sc H (fun e=>by rcases H.nz _ _ e with e | e<;>exact hl e) (Jspr H ho hQ).2]
 rfl
theorem pneg_on{P:Pt}(h:onP P):onP (pneg P):=by
 cases P with
 | none=>trivial
 | some p=>
  obtain ⟨x,y⟩:=p
  have h':y*y=x*x*x+7:=h
  show (- y)*(- y)=x*x*x+7
  grind
theorem padd_neg(H:Fc iv){P:Pt}(hP:onP P):padd iv P (pneg P)=none:=by
 cases P with
 | none=>exact padd_none H trivial
 | some p=>
  obtain ⟨x,y⟩:=p
  show nrm iv (J3 (aff x y) (aff x (- y)))=none
  unfold nrm
  rw[if_pos]
  show jz x y 1 x (- y) 1=0
  unfold jz
  grind
theorem padd_cancel(H:Fc iv){P Q:Pt}(hP:onP P)(hQ:onP Q):padd iv (padd iv P Q) (pneg Q)=P:=by
 cases Q with
 | none=>
  show padd iv (padd iv P none) none=P
  rw[padd_comm P none,padd_none H hP,padd_comm P none,padd_none H hP]
 | some q=>
  cases P with
  | none=>rw[padd_none H hQ];exact padd_neg H hQ
  | some p=>
   obtain ⟨x1,y1⟩:=p
   obtain ⟨x2,y2⟩:=q
   have j:=Jspr H hP hQ
   have hn:=pneg_on hQ
   show padd iv (nrm iv (J3 (spr (some (x1,y1))) (spr (some (x2,y2))))) (pneg (some (x2,y2)))=_
   rw[padd_nrm H j.1 j.2 hn]
   have hl:=id_cancel (v6 x1 y1 x2 y2 x1 y1) hP hQ hP
   have hz:nzT (J3 (J3 (spr (some (x1,y1))) (spr (some (x2,y2)))) (spr (pneg (some (x2,y2))))):=by
    obtain ⟨l,hl,e,ho⟩:=of_nrm H j.1 j.2
    have h2:=J3_sc l (spr (nrm iv (J3 (spr (some (x1,y1))) (spr (some (x2,y2)))))) (spr (pneg (some (x2,y2))))
    rw[← e] at h2
    rw[h2]
    exact sc_nz H (fun e=>by rcases H.nz _ _ e with e | e<;>exact hl e) (Jspr H ho hn).2
   rw[nrm_like H hz (spr_nz H (some (x1,y1))) hl,nrm_spr H]
theorem padd_assoc(H:Fc iv){P Q R:Pt}(hP:onP P)(hQ:onP Q)(hR:onP R):padd iv (padd iv P Q) R=padd iv P (padd iv Q R):=by
 have hPQ:=padd_on H hP hQ
 have hQR:=padd_on H hQ hR
 have c1:=padd_cancel H hP hQ
 cases hu:padd iv P Q with
 | none=>
  rw[hu,padd_none H (pneg_on hQ)] at c1
  rw[padd_none H hR,← c1,padd_comm,padd_comm Q R,padd_cancel H hR hQ]
 | some u=>
  rw[hu] at c1 hPQ
  cases Q with
  | none=>
   have e:padd iv P none=P:=by rw[padd_comm,padd_none H hP]
   rw[e] at hu
   rw[padd_none H hR,← hu]
  | some q=>
   cases R with
   | none=>rw[padd_comm _ none,padd_none H hPQ,padd_comm (some q) none,padd_none H hQ,hu]
   | some r=>
    obtain ⟨x1,y1⟩:=u
    obtain ⟨x2,y2⟩:=q
    obtain ⟨x3,y3⟩:=r
    have hl:=id_assoc (v6 x1 y1 x2 y2 x3 y3) hPQ hQ hR
    have hn:=pneg_on hQ
    have j1:=Jspr H hPQ hn
    have j2:=Jspr H hQ hR
    obtain ⟨l1,hl1,e1,ho1⟩:=of_nrm H j1.1 j1.2
    obtain ⟨l2,hl2,e2,ho2⟩:=of_nrm H j2.1 j2.2
    have j3:=Jspr H ho1 ho2
    have e3:J3 (J3 (spr (some (x1,y1))) (spr (pneg (some (x2,y2))))) (J3 (spr (some (x2,y2))) (spr (some (x3,y3)))) =
      sc (l1*l1*(l2*l2)) (J3 (spr (nrm iv (J3 (spr (some (x1,y1))) (spr (pneg (some (x2,y2))))))) (spr (nrm iv (J3 (spr (some (x2,y2))) (spr (some (x3,y3))))))):=by
     have k1:=J3_sc l1 (spr (nrm iv (J3 (spr (some (x1,y1))) (spr (pneg (some (x2,y2))))))) (J3 (spr (some (x2,y2))) (spr (some (x3,y3))))
     rw[← e1] at k1
     have k2:=J3_sc l2 (spr (nrm iv (J3 (spr (some (x2,y2))) (spr (some (x3,y3)))))) (spr (nrm iv (J3 (spr (some (x1,y1))) (spr (pneg (some (x2,y2)))))))
     rw[← e2] at k2
     rw[k1,J3_comm,k2,sc_sc,J3_comm]
    have ll:l1*l1*(l2*l2)≠0:=fun e=>by
     rcases H.nz _ _ e with e | e
     ·rcases H.nz _ _ e with e | e<;>exact hl1 e
     ·rcases H.nz _ _ e with e | e<;>exact hl2 e
    have hz:=sc_nz H ll j3.2
    rw[← e3] at hz
    have e4:=nrm_like H (Jspr H hPQ hR).2 hz hl
    rw[e3,nrm_sc H ll j3.2] at e4
    have e5:padd iv (some (x1,y1)) (some (x3,y3))=padd iv (padd iv (some (x1,y1)) (pneg (some (x2,y2)))) (padd iv (some (x2,y2)) (some (x3,y3))):=e4
    rw[e5,c1]
end
end
section
theorem Pp_prim:Prim Pp 3:=pr45
theorem Pp_prime:isP Pp:=Pp_prim.1
theorem Pp_fermat{a:Nat}(ha:¬ Pp∣a):a^(Pp-1)%Pp=1:=fermat Pp_prime Pp_prim.2.1 Pp_prim.2.2 ha
theorem Pp_big:1000<Pp:=by decide +kernel
theorem no_root:(pmk Pp (Pp-7) 256 ((Pp-1)/3) fun r=>Nat.beq r 1)=false:=by decide +kernel
section
variable [NeZero Pp]
theorem cf_val(a:Fin Pp):cf a.val=a:=by unfold cf;apply Fin.ext;simp[Fin.ofNat,Nat.mod_eq_of_lt a.isLt]
theorem cf_eq{a b:Nat}(h:cf a=cf b):a%Pp=b%Pp:=by
 have:=congrArg Fin.val h
 simpa [cf,Fin.ofNat] using this
theorem cf_of_mod{a b:Nat}(h:a%Pp=b%Pp):cf a=cf b:=by rw[← cf_mod a,← cf_mod b,h]
theorem cf_dvd{a:Nat}(h:cf a=0):Pp∣a:=by
 rw[← cf_zero] at h
 have:=cf_eq h
 rw[Nat.zero_mod] at this
 exact Nat.dvd_of_mod_eq_zero this
def ivF (a:Fin Pp):Fin Pp:=cf (a.val^(Pp-2))
theorem val_nd{a:Fin Pp}(h:a≠0):¬ Pp∣a.val:=by
 intro hd
 have:=Nat.mod_eq_zero_of_dvd hd
 rw[Nat.mod_eq_of_lt a.isLt] at this
 exact h (Fin.ext (by simpa using this))
theorem fc_inv{a:Fin Pp}(h:a≠0):a*ivF a=1:=by
 have hb:=Pp_big
 have e:cf (a.val*a.val^(Pp-2))=1:=by
  rw[Nat.mul_comm,← Nat.pow_succ,show (Pp-2).succ=Pp-1 by omega,← cf_mod,Pp_fermat (val_nd h),cf_one]
 rw[cf_mul,cf_val] at e
 exact e
theorem fc:Fc ivF where
 nz a b h:=by
  rw[← cf_val a,← cf_val b,← cf_mul] at h
  rcases Pp_prime.mul (cf_dvd h) with h | h
  ·left;rw[← cf_val a,← cf_mod,Nat.mod_eq_zero_of_dvd h,cf_zero]
  ·right;rw[← cf_val b,← cf_mod,Nat.mod_eq_zero_of_dvd h,cf_zero]
 nc x h:=by
  have hb:=Pp_big
  have hx:¬ Pp∣x.val:=by
   intro hd
   have h0:x=0:=by rw[← cf_val x,← cf_mod,Nat.mod_eq_zero_of_dvd hd,cf_zero]
   rw[h0,m_z,Fin.zero_add,← cf_seven] at h
   have:=Nat.le_of_dvd (by decide) (cf_dvd h)
   omega
  have e:cf (x.val^3+7)=0:=by
   rw[cf_add,cf_seven,show x.val^3=x.val*x.val*x.val by rw[Nat.pow_succ,Nat.pow_succ,Nat.pow_one],cf_mul,cf_mul,cf_val]
   exact h
  have hd:=cf_dvd e
  have e2:x.val^3%Pp=(Pp-7)%Pp:=by
   have h1:=Nat.mod_eq_zero_of_dvd hd
   have h2:=Nat.div_add_mod (x.val^3+7) Pp
   rw[h1,Nat.add_zero] at h2
   have h3:0<(x.val^3+7)/Pp:=Nat.pos_of_ne_zero fun e=>by rw[e,Nat.mul_zero] at h2;omega
   obtain ⟨k,hk⟩:∃ k,(x.val^3+7)/Pp=k+1:=⟨(x.val^3+7)/Pp-1,by omega⟩
   rw[hk,Nat.mul_add,Nat.mul_one] at h2
   rw[show x.val^3=(Pp-7)+Pp*k by omega,Nat.add_mul_mod_self_left]
  have e3:(Pp-7)^((Pp-1)/3)%Pp=1:=by
   rw[Nat.pow_mod,← e2,← Nat.pow_mod,← Nat.pow_mul,show 3*((Pp-1)/3)=Pp-1 by decide +kernel]
   exact Pp_fermat hx
  have e4:=no_root
  rw[pmk_eq (by omega) 256 _ _ (by decide +kernel),e3] at e4
  cases e4
 inv a h:=fc_inv h
 n2 h:=by
  have hb:=Pp_big
  have h2:cf 2=0:=h
  have:=Nat.le_of_dvd (by decide) (cf_dvd h2)
  omega
 n7 h:=by
  have hb:=Pp_big
  have h2:cf 7=0:=h
  have:=Nat.le_of_dvd (by decide) (cf_dvd h2)
  omega
end
end
section
section
variable [NeZero Pp]
theorem nz_mul{a b:Fin Pp}(ha:a≠0)(hb:b≠0):a*b≠0:=fun h=>(fc.nz a b h).elim ha hb
theorem J3_ok{a b:T3p}(ha:onT a)(na:nzT a)(hb:onT b)(nb:nzT b):onT (J3 a b)∧nzT (J3 a b)∧nrm ivF (J3 a b)=padd ivF (nrm ivF a) (nrm ivF b):=by
 obtain ⟨l,hl,ea,pa⟩:=of_nrm fc ha na
 obtain ⟨m,hm,eb,pb⟩:=of_nrm fc hb nb
 obtain ⟨h1,h2⟩:=Jspr fc pa pb
 have hlm:l*l*(m*m)≠0:=nz_mul (nz_mul hl hl) (nz_mul hm hm)
 have e:J3 a b=sc (l*l*(m*m)) (J3 (spr (nrm ivF a)) (spr (nrm ivF b))):=by
  have e1:J3 a b=J3 (sc l (spr (nrm ivF a))) b:=congrArg (fun t=>J3 t b) ea
  have e2:J3 b (spr (nrm ivF a))=J3 (sc m (spr (nrm ivF b))) (spr (nrm ivF a)):=congrArg (fun t=>J3 t (spr (nrm ivF a))) eb
  rw[e1,J3_sc,J3_comm _ b,e2,J3_sc,sc_sc,J3_comm (spr (nrm ivF b))]
 refine ⟨?_,?_,?_⟩
 ·rw[e];exact sc_on h1
 ·rw[e];exact sc_nz fc hlm h2
 ·rw[e,nrm_sc fc hlm h2];rfl
def mulP:Nat→Pt→Pt
 | 0,_=>none
 | n+1,P=>padd ivF (mulP n P) P
theorem mulP_on{P:Pt}(hP:onP P):∀ n,onP (mulP n P)
 | 0=>trivial
 | n+1=>padd_on fc (mulP_on hP n) hP
theorem padd_none_r{P:Pt}(hP:onP P):padd ivF P none=P:=by rw[padd_comm];exact padd_none fc hP
theorem mulP_one{P:Pt}(hP:onP P):mulP 1 P=P:=padd_none fc hP
theorem mulP_add{P:Pt}(hP:onP P)(a:Nat):∀ b,mulP (a+b) P=padd ivF (mulP a P) (mulP b P)
 | 0=>(padd_none_r (mulP_on hP a)).symm
 | b+1=>by
  show padd ivF (mulP (a+b) P) P=padd ivF (mulP a P) (padd ivF (mulP b P) P)
  rw[mulP_add hP a b,padd_assoc fc (mulP_on hP a) (mulP_on hP b) hP]
theorem mulP_none:∀ n,mulP n none=none
 | 0=>rfl
 | n+1=>by show padd ivF (mulP n none) none=none;rw[mulP_none n];exact padd_none fc (P:=none) trivial
theorem mulP_mul{P:Pt}(hP:onP P)(a:Nat):∀ b,mulP (b*a) P=mulP b (mulP a P)
 | 0=>by rw[Nat.zero_mul];rfl
 | b+1=>by
  rw[Nat.succ_mul,mulP_add hP,mulP_mul hP a b];rfl
theorem four_on{a b c d:Pt}(ha:onP a)(hb:onP b)(hc:onP c)(hd:onP d):padd ivF (padd ivF a b) (padd ivF c d)=padd ivF (padd ivF a c) (padd ivF b d):=by
 rw[padd_assoc fc ha hb (padd_on fc hc hd),← padd_assoc fc hb hc hd,padd_comm b c,padd_assoc fc hc hb hd,← padd_assoc fc ha hc (padd_on fc hb hd)]
theorem mulP_padd{P Q:Pt}(hP:onP P)(hQ:onP Q):∀ n,mulP n (padd ivF P Q)=padd ivF (mulP n P) (mulP n Q)
 | 0=>(padd_none fc (P:=none) trivial).symm
 | n+1=>by
  show padd ivF (mulP n (padd ivF P Q)) (padd ivF P Q)=padd ivF (padd ivF (mulP n P) P) (padd ivF (mulP n Q) Q)
  rw[mulP_padd hP hQ n,four_on (mulP_on hP n) (mulP_on hQ n) hP hQ]
def flatJ (a:T3p):Pt:=if a.2.2=0 then none else some (a.1*(ivF a.2.2*ivF a.2.2),a.2.1*(ivF a.2.2*ivF a.2.2*ivF a.2.2))
def dE (x:Fin Pp):Fin Pp:=x*x+x*x+x*x
def dD (x y:Fin Pp):Fin Pp:=x*(y*y)+x*(y*y)+(x*(y*y)+x*(y*y))
def dX (x y:Fin Pp):Fin Pp:=dE x*dE x-(dD x y+dD x y)
def dC (c:Fin Pp):Fin Pp:=c+c+(c+c)+(c+c+(c+c))
def dY (x y:Fin Pp):Fin Pp:=dE x*(dD x y-dX x y)-dC (y*y*(y*y))
def dblJ (a:T3p):T3p:=if a.2.2=0 then (0,0,0) else if a.2.1=0 then (0,0,0) else (dX a.1 a.2.1,dY a.1 a.2.1,a.2.1*a.2.2+a.2.1*a.2.2)
def jH (x z u:Fin Pp):Fin Pp:=u*(z*z)-x
def jR (y z v:Fin Pp):Fin Pp:=v*(z*z*z)-y
def jX (x h r:Fin Pp):Fin Pp:=r*r-h*h*h-(x*(h*h)+x*(h*h))
def jY (x y h r:Fin Pp):Fin Pp:=r*(x*(h*h)-jX x h r)-y*(h*h*h)
def joinJ (a:T3p):Pt→T3p
 | none=>a
 | some (u,v)=>if a.2.2=0 then (u,v,1) else if jH a.1 a.2.2 u=0 then (if jR a.2.1 a.2.2 v=0 then dblJ a else (0,0,0)) else (jX a.1 (jH a.1 a.2.2 u) (jR a.2.1 a.2.2 v),jY a.1 a.2.1 (jH a.1 a.2.2 u) (jR a.2.1 a.2.2 v),a.2.2*jH a.1 a.2.2 u)
theorem flat_eq{x y z X Y:Fin Pp}(hz:z≠0)(hx:x=X*(z*z))(hy:y=Y*(z*z*z)):flatJ (x,y,z)=some (X,Y):=by
 unfold flatJ
 simp only[]
 rw[if_neg hz]
 have i:=fc.inv z hz
 have e1:x*(ivF z*ivF z)=X:=by rw[hx];grind
 have e2:y*(ivF z*ivF z*ivF z)=Y:=by rw[hy];grind
 rw[e1,e2]
theorem flat_none{a:T3p}(h:a.2.2=0):flatJ a=none:=by unfold flatJ;rw[if_pos h]
theorem flat_some{x y z:Fin Pp}(hz:z≠0):∃ X Y,flatJ (x,y,z)=some (X,Y)∧x=X*(z*z)∧y=Y*(z*z*z):=by
 have i:=fc.inv z hz
 refine ⟨x*(ivF z*ivF z),y*(ivF z*ivF z*ivF z),?_,?_,?_⟩
 ·unfold flatJ;simp only[];rw[if_neg hz]
 ·grind
 ·grind
theorem nrm_eq{X Y Z x y:Fin Pp}(hz:Z≠0)(hx:X=x*Z)(hy:Y=y*Z):nrm ivF (X,Y,Z)=some (x,y):=by
 unfold nrm
 simp only[]
 rw[if_neg hz]
 have i:=fc.inv Z hz
 have e1:X*ivF Z=x:=by rw[hx];grind
 have e2:Y*ivF Z=y:=by rw[hy];grind
 rw[e1,e2]
theorem nrm_of{X Y Z:Fin Pp}(hz:Z≠0):∃ x y,nrm ivF (X,Y,Z)=some (x,y)∧X=x*Z∧Y=y*Z:=by
 have i:=fc.inv Z hz
 refine ⟨X*ivF Z,Y*ivF Z,?_,?_,?_⟩
 ·unfold nrm;simp only[];rw[if_neg hz]
 ·grind
 ·grind
theorem s_00(a b:Fin Pp):(0:Fin Pp)*a+0*b=0:=by rw[z_m,z_m,Fin.add_zero]
theorem sub_eq{a b:Fin Pp}(h:a-b=0):a=b:=by grind
theorem sub_self'{a b:Fin Pp}(h:a=b):a-b=0:=by grind
theorem d_x(X Y z:Fin Pp):dX (X*(z*z)) (Y*(z*z*z))=(9*(X*X*(X*X))-8*(X*(Y*Y)))*(z*z*(z*z)*(z*z*(z*z))):=by unfold dX dE dD;grind
theorem d_y(X Y z:Fin Pp):dY (X*(z*z)) (Y*(z*z*z))=(36*(X*X*X*(Y*Y))-27*(X*X*X*(X*X*X))-8*(Y*Y*(Y*Y)))*(z*z*(z*z)*(z*z*(z*z))*(z*z*(z*z))):=by unfold dY dX dE dD dC;grind
theorem d_jx{X Y:Fin Pp}(h:Y*Y=X*X*X+7):jx X Y 1 X Y 1=2*Y*(9*(X*X*(X*X))-8*(X*(Y*Y))):=by
 have e:jx X Y 1 X Y 1-2*Y*(9*(X*X*(X*X))-8*(X*(Y*Y)))=18*(X*Y)*(Y*Y-(X*X*X+7)):=by unfold jx;grind
 rw[h] at e
 grind
theorem d_jy{X Y:Fin Pp}(h:Y*Y=X*X*X+7):jy X Y 1 X Y 1=36*(X*X*X*(Y*Y))-27*(X*X*X*(X*X*X))-8*(Y*Y*(Y*Y)):=by
 unfold jy
 have e:X*X*X=Y*Y-7:=by rw[h];grind
 have e2:(Y*Y+21*(1*1))*(Y*Y-21*(1*1))+3*(X*X)*(21*(X*1+X*1))=(Y*Y)*(Y*Y)-441+126*(X*X*X):=by grind
 rw[e2,e]
 grind
theorem d_jz{X Y:Fin Pp}(h:Y*Y=X*X*X+7):jz X Y 1 X Y 1=8*(Y*(Y*Y)):=by
 rw[r_F,r_I (X*X*X) (Y*Y) h]
 grind
theorem n8'(a:Fin Pp):8*a=2*(2*(2*a)):=by grind
theorem n8:(8:Fin Pp)≠0:=fun e=>by
 have h:=n8' 1
 rw[e,z_m] at h
 exact nz_mul fc.n2 (nz_mul fc.n2 (nz_mul fc.n2 fc.n1)) h.symm
theorem rg1(Y A b:Fin Pp):2*Y*(A-b*(4*(Y*Y)))=2*Y*A-b*(8*(Y*(Y*Y))):=by grind
theorem rg2(b Y z:Fin Pp):b*(4*(Y*Y))*(z*z*(z*z)*(z*z*(z*z)))=b*((Y*(z*z*z)*z+Y*(z*z*z)*z)*(Y*(z*z*z)*z+Y*(z*z*z)*z)):=by grind
theorem rg3(b Y z:Fin Pp):b*(8*(Y*(Y*Y)))*(z*z*(z*z)*(z*z*(z*z))*(z*z*(z*z)))=b*((Y*(z*z*z)*z+Y*(z*z*z)*z)*(Y*(z*z*z)*z+Y*(z*z*z)*z)*(Y*(z*z*z)*z+Y*(z*z*z)*z)):=by grind
theorem rg4(b C z:Fin Pp):b*(C*C)*(z*z*z*(z*z*z))=b*(z*(C*(z*z))*(z*(C*(z*z)))):=by grind
theorem rg5(b C z:Fin Pp):b*(C*C*C)*(z*z*z*(z*z*z)*(z*z*z))=b*(z*(C*(z*z))*(z*(C*(z*z)))*(z*(C*(z*z)))):=by grind
theorem rg6{B A b C:Fin Pp}(h:b*B*C=B*A):B*(A-b*C)=0:=by grind
theorem rg7(X u z:Fin Pp):u*(z*z)-X*(z*z)=(u-X)*(z*z):=by grind
theorem rg8(Y v z:Fin Pp):v*(z*z*z)-Y*(z*z*z)=(v-Y)*(z*z*z):=by grind
theorem rg9(v Y:Fin Pp):(v-Y)*(v+Y)=v*v-Y*Y:=by grind
theorem rg10{v Y:Fin Pp}(h:v+Y=0):v = - Y:=by grind
theorem rg11(u:Fin Pp):u=u*(1*1):=by grind
theorem rg12(u:Fin Pp):u=u*(1*1*1):=by grind
theorem rg13(y z:Fin Pp):y*z+y*z=2*(y*z):=by grind
theorem dbl_ok{a:T3p}(h:onP (flatJ a)):flatJ (dblJ a)=padd ivF (flatJ a) (flatJ a):=by
 obtain ⟨x,y,z⟩:=a
 by_cases hz:z=0
 ·rw[flat_none (a:=(x,y,z)) hz,padd_none fc (P:=none) trivial]
  unfold dblJ;simp only[];rw[if_pos hz];exact flat_none rfl
 ·obtain ⟨X,Y,hf,hx,hy⟩:=flat_some (x:=x) (y:=y) hz
  rw[hf] at h ⊢
  have hc:Y*Y=X*X*X+7:=h
  have hY:=y_nz fc hc
  have hy0:y≠0:=by rw[hy];exact nz_mul hY (nz_mul (nz_mul hz hz) hz)
  unfold dblJ
  simp only[]
  rw[if_neg hz,if_neg hy0]
  have hjz:=d_jz hc
  have hZ:jz X Y 1 X Y 1≠0:=by rw[hjz];exact nz_mul n8 (nz_mul hY (nz_mul hY hY))
  obtain ⟨x3,y3,hn,h1,h2⟩:=nrm_of (X:=jx X Y 1 X Y 1) (Y:=jy X Y 1 X Y 1) hZ
  have hp:padd ivF (some (X,Y)) (some (X,Y))=some (x3,y3):=hn
  rw[hp]
  have hz2:y*z+y*z≠0:=by
   rw[rg13];exact nz_mul fc.n2 (nz_mul hy0 hz)
  rw[d_jx hc,hjz] at h1
  rw[d_jy hc,hjz] at h2
  refine flat_eq hz2 ?_ ?_
  ·rw[hx,hy,d_x]
   have k:=rg1 Y (9*(X*X*(X*X))-8*(X*(Y*Y))) x3
   rw[sub_self' h1] at k
   rw[sub_eq ((fc.nz _ _ k).resolve_left (nz_mul fc.n2 hY))]
   exact rg2 x3 Y z
  ·rw[hx,hy,d_y,h2]
   exact rg3 y3 Y z
theorem j_idx(x1 y1 x2 y2:Fin Pp):jx x1 y1 1 x2 y2 1*((x2-x1)*(x2-x1))-jz x1 y1 1 x2 y2 1*jX x1 (x2-x1) (y2-y1)=(y1*y1-(x1*x1*x1+7))*( - 3*x1*x1*x2*y2-3*x1*y1*x2*x2+3*x1*x2*x2*y2-y1*y1*y2+y1*y2*y2-21*y1+2*x2*x2*x2*y2+y2*y2*y2+14*y2)+(y2*y2-(x2*x2*x2+7))*(3*x1*x1*x1*y1+x1*x1*x1*y2+3*x1*x1*y1*x2-3*x1*x1*x2*y2-3*x1*y1*x2*x2-y1*y2*y2+21*y1-14*y2):=by unfold jx jz jX;grind
theorem j_idy(x1 y1 x2 y2:Fin Pp):jy x1 y1 1 x2 y2 1*((x2-x1)*(x2-x1)*(x2-x1))-jz x1 y1 1 x2 y2 1*jY x1 y1 (x2-x1) (y2-y1)=(y1*y1-(x1*x1*x1+7))*( - 3*x1*x1*y1*x2*y2-9*x1*x1*x2*x2*x2*x2+15*x1*x1*x2*y2*y2-3*x1*y1*y1*x2*x2+6*x1*y1*x2*x2*y2+6*x1*x2*x2*x2*x2*x2-15*x1*x2*x2*y2*y2-84*x1*x2*x2-y1*y1*y1*y2+2*y1*y1*y2*y2-21*y1*y1+2*y1*x2*x2*x2*y2+35*y1*y2+2*x2*x2*x2*y2*y2+42*x2*x2*x2-2*y2*y2*y2*y2+14*y2*y2-147)+(y2*y2-(x2*x2*x2+7))*(9*x1*x1*x1*x1*x1*x2-6*x1*x1*x1*x1*x2*x2-2*x1*x1*x1*y1*y2-2*x1*x1*x1*y2*y2-42*x1*x1*x1-6*x1*x1*y1*x2*y2+3*x1*x1*x2*y2*y2+189*x1*x1*x2+3*x1*y1*x2*x2*y2-105*x1*x2*x2+y1*y2*y2*y2-35*y1*y2+7*y2*y2+147):=by unfold jy jz jY jX;grind
theorem j_x{x1 y1 x2 y2:Fin Pp}(h1:y1*y1=x1*x1*x1+7)(h2:y2*y2=x2*x2*x2+7):jx x1 y1 1 x2 y2 1*((x2-x1)*(x2-x1))=jz x1 y1 1 x2 y2 1*jX x1 (x2-x1) (y2-y1):=by
 have e:=j_idx x1 y1 x2 y2
 rw[sub_self' h1,sub_self' h2,s_00] at e
 exact sub_eq e
theorem j_y{x1 y1 x2 y2:Fin Pp}(h1:y1*y1=x1*x1*x1+7)(h2:y2*y2=x2*x2*x2+7):jy x1 y1 1 x2 y2 1*((x2-x1)*(x2-x1)*(x2-x1))=jz x1 y1 1 x2 y2 1*jY x1 y1 (x2-x1) (y2-y1):=by
 have e:=j_idy x1 y1 x2 y2
 rw[sub_self' h1,sub_self' h2,s_00] at e
 exact sub_eq e
theorem j_sx(X h r z:Fin Pp):jX (X*(z*z)) (h*(z*z)) (r*(z*z*z))=jX X h r*(z*z*z*(z*z*z)):=by unfold jX;grind
theorem j_sy(X Y h r z:Fin Pp):jY (X*(z*z)) (Y*(z*z*z)) (h*(z*z)) (r*(z*z*z))=jY X Y h r*(z*z*z*(z*z*z)*(z*z*z)):=by unfold jY jX;grind
theorem pneg_pneg(P:Pt):pneg (pneg P)=P:=by
 cases P with
 | none=>rfl
 | some p=>obtain ⟨x,y⟩:=p;show some (x,- - y)=some (x,y);rw[show - - y=y by grind]
theorem join_ok{a:T3p}(h:onP (flatJ a)){Q:Pt}(hQ:onP Q):flatJ (joinJ a Q)=padd ivF (flatJ a) Q:=by
 obtain ⟨x,y,z⟩:=a
 cases Q with
 | none=>rw[padd_none_r h];rfl
 | some q=>
  obtain ⟨u,v⟩:=q
  have h2:v*v=u*u*u+7:=hQ
  by_cases hz:z=0
  ·rw[flat_none (a:=(x,y,z)) hz,padd_none fc hQ]
   unfold joinJ;simp only[];rw[if_pos hz]
   exact flat_eq fc.n1 (rg11 u) (rg12 v)
  ·obtain ⟨X,Y,hf,hx,hy⟩:=flat_some (x:=x) (y:=y) hz
   have hf':=hf
   rw[hf] at h ⊢
   have h1:Y*Y=X*X*X+7:=h
   have hzz:=nz_mul hz hz
   have eH:jH x z u=(u-X)*(z*z):=by unfold jH;rw[hx];exact rg7 X u z
   have eR:jR y z v=(v-Y)*(z*z*z):=by unfold jR;rw[hy];exact rg8 Y v z
   unfold joinJ
   simp only[]
   rw[if_neg hz]
   by_cases hH:jH x z u=0
   ·have hu:u=X:=sub_eq ((fc.nz _ _ (eH ▸ hH)).resolve_right hzz)
    rw[if_pos hH]
    by_cases hR:jR y z v=0
    ·have hv:v=Y:=sub_eq ((fc.nz _ _ (eR ▸ hR)).resolve_right (nz_mul hzz hz))
     rw[if_pos hR,dbl_ok (by rw[hf];exact h),hf,hu,hv]
    ·rw[if_neg hR,flat_none rfl]
     have hv:v = - Y:=by
      have k:(v-Y)*(v+Y)=0:=by rw[rg9];exact sub_self' (by rw[h2,h1,hu])
      have hne:v-Y≠0:=fun e=>hR (by rw[eR,e];exact z_m _)
      exact rg10 ((fc.nz _ _ k).resolve_left hne)
     rw[hu,hv]
     exact (padd_neg fc h).symm
   ·rw[if_neg hH]
    have hd:u-X≠0:=fun e=>hH (by rw[eH,e];exact z_m _)
    have kx:=j_x h1 h2
    have ky:=j_y h1 h2
    have hdd:=nz_mul hd hd
    have hddd:=nz_mul hdd hd
    have hnz:=J_nz fc h1 h2
    have hZ:jz X Y 1 u v 1≠0:=by
     intro e
     rw[e,z_m] at kx ky
     exact hnz ⟨(fc.nz _ _ kx).resolve_right hdd,(fc.nz _ _ ky).resolve_right hddd,e⟩
    obtain ⟨x3,y3,hn,g1,g2⟩:=nrm_of (X:=jx X Y 1 u v 1) (Y:=jy X Y 1 u v 1) hZ
    have hp:padd ivF (some (X,Y)) (some (u,v))=some (x3,y3):=hn
    rw[hp]
    have e1:jX X (u-X) (v-Y)=x3*((u-X)*(u-X)):=by
     rw[g1] at kx
     exact sub_eq ((fc.nz _ _ (rg6 kx)).resolve_left hZ)
    have e2:jY X Y (u-X) (v-Y)=y3*((u-X)*(u-X)*(u-X)):=by
     rw[g2] at ky
     exact sub_eq ((fc.nz _ _ (rg6 ky)).resolve_left hZ)
    rw[eH,eR]
    refine flat_eq (nz_mul hz (nz_mul hd hzz)) ?_ ?_
    ·rw[hx,j_sx,e1]
     exact rg4 x3 (u-X) z
    ·rw[hx,hy,j_sy,e2]
     exact rg5 y3 (u-X) z
end
end
section
def On:Nat:=115792089237316195423570985008687907852837564279074904382605163141518161494337
def Gx:Nat:=55066263022277343669578718895168534326250603453777594175500187360389116729240
def Gy:Nat:=32670510020758816978083085130507043184471273380659243275938904335757337482424
def Hx:Nat:=0xc6047f9441ed7d6d3045406e95c07cd85c778e4b8cef3ca7abac09b95c709ee5
def Hy:Nat:=0x1ae168fea63dc339a3c58419466ceaeef7f632653266d0e1236431a950cfe52a
theorem On_prime:isP On:=pr79.1
def JK {α:Type} (x1 y1 z1 x2 y2 z2:Nat) (k:Nat→Nat→Nat→α):α:=
 fo ((x1*y2+x2*y1)%Pp) fun xy=>fo ((y1*z2+y2*z1)%Pp) fun yz=>fo (21*(x1*z2+x2*z1)%Pp) fun xz=>fo (3*(x1*x2)%Pp) fun xx=>fo (21*(z1*z2)%Pp) fun zz=>fo (y1*y2%Pp) fun yy=>
 fo ((yy+zz)%Pp) fun m=>fo ((yy+(Pp-zz%Pp))%Pp) fun g=>fo ((xy*g+(Pp-yz*xz%Pp))%Pp) fun X=>fo ((m*g+xx*xz)%Pp) fun Y=>fo ((yz*m+xx*xy)%Pp) fun Z=>k X Y Z
def mulK {α:Type}:Nat→Nat→(Nat→Nat→Nat→α)→α
 | 0,_,k=>k 0 1 0
 | f+1,e,k=>mulK f (e/2) fun x y z=>JK x y z x y z fun x y z=>match e%2 with | 0=>k x y z | _+1=>JK x y z Gx Gy 1 k
theorem nG0:(mulK 256 On fun _ _ z=>Nat.beq z 0)=true:=by decide +kernel
theorem G2:(JK Gx Gy 1 Gx Gy 1 fun x y z=>Nat.beq (Hx*z%Pp) x&&(Nat.beq (Hy*z%Pp) y && !(Nat.beq (z%Pp) 0)))=true:=by decide +kernel
theorem G_on0:Gy*Gy%Pp=(Gx*Gx*Gx+7)%Pp:=by decide +kernel
theorem cnt:2*Pp+1<3*On:=by decide +kernel
theorem On_odd:On%2=1:=by decide +kernel
theorem On_pos:1<On:=by decide +kernel
theorem On_lt:On<2^256:=by decide +kernel
theorem Pp_odd:Pp%2=1:=by decide +kernel
def codeP:Pt→Nat
 | none=>2*Pp
 | some (x,y)=>2*x.val+y.val%2
theorem code_lt(P:Pt):codeP P<2*Pp+1:=by
 cases P with
 | none=>show 2*Pp<_;omega
 | some p=>obtain ⟨x,y⟩:=p;show 2*x.val+y.val%2<_;have:=x.isLt;omega
theorem two_c(h c:Nat):2*((h+1)*c)=c+(2*h+1)*c:=by rw[Nat.add_mul,Nat.add_mul,Nat.mul_add,Nat.one_mul,Nat.mul_assoc];omega
section
variable [NeZero Pp]
theorem cf_21:cf 21=(21:Fin Pp):=rfl
theorem cf_3:cf 3=(3:Fin Pp):=rfl
theorem cf_sub(a:Nat):cf (Pp-a%Pp) = - cf a:=by
 have h:cf (Pp-a%Pp)+cf (a%Pp)=0:=by
  rw[← cf_add,Nat.sub_add_cancel (Nat.le_of_lt (Nat.mod_lt _ (by decide))),← cf_mod,Nat.mod_self,cf_zero]
 rw[cf_mod] at h
 grind
def cT (x y z:Nat):T3p:=(cf x,cf y,cf z)
theorem r_min(a b:Fin Pp):a + - b=a-b:=by grind
theorem JK_eq(x1 y1 z1 x2 y2 z2:Nat):∃ X Y Z:Nat,(∀ (α:Type) (k:Nat→Nat→Nat→α),JK x1 y1 z1 x2 y2 z2 k=k X Y Z)∧cT X Y Z=J3 (cT x1 y1 z1) (cT x2 y2 z2):=by
 refine ⟨((x1*y2+x2*y1)%Pp*((y1*y2%Pp+(Pp-21*(z1*z2)%Pp%Pp))%Pp)+(Pp-(y1*z2+y2*z1)%Pp*(21*(x1*z2+x2*z1)%Pp)%Pp))%Pp,
  ((y1*y2%Pp+21*(z1*z2)%Pp)%Pp*((y1*y2%Pp+(Pp-21*(z1*z2)%Pp%Pp))%Pp)+3*(x1*x2)%Pp*(21*(x1*z2+x2*z1)%Pp))%Pp,
  ((y1*z2+y2*z1)%Pp*((y1*y2%Pp+21*(z1*z2)%Pp)%Pp)+3*(x1*x2)%Pp*((x1*y2+x2*y1)%Pp))%Pp,fun α k=>by unfold JK;simp only[fo_eq],?_⟩
 unfold cT J3 jx jy jz
 simp only[cf_mod,cf_add,cf_mul,cf_sub,cf_21,cf_3,r_min]
def Gp':Pt:=some (cf Gx,cf Gy)
theorem G_on:onP Gp':=by
 show cf Gy*cf Gy=cf Gx*cf Gx*cf Gx+7
 rw[← cf_mul,← cf_mul,← cf_mul,← cf_seven,← cf_add]
 exact cf_of_mod G_on0
theorem spr_G:spr Gp'=cT Gx Gy 1:=by show (cf Gx,cf Gy,(1:Fin Pp))=(cf Gx,cf Gy,cf 1);rw[cf_one]
theorem nou_cT:nou=cT 0 1 0:=by show ((0:Fin Pp),(1:Fin Pp),(0:Fin Pp))=(cf 0,cf 1,cf 0);rw[cf_one,cf_zero]
theorem mulK_eq:∀ (f e:Nat),e<2^f→∃ X Y Z:Nat,(∀ (α:Type) (k:Nat→Nat→Nat→α),mulK f e k=k X Y Z)∧onT (cT X Y Z)∧nzT (cT X Y Z)∧nrm ivF (cT X Y Z)=mulP e Gp'
 | 0,e,h=>by
  have:e=0:=by simpa using h
  subst this
  refine ⟨0,1,0,fun α k=>rfl,?_,?_,?_⟩
  ·rw[← nou_cT];exact spr_on (P:=none) trivial
  ·rw[← nou_cT];exact spr_nz fc none
  ·rw[← nou_cT];exact nrm_spr fc none
 | f+1,e,h=>by
  obtain ⟨X,Y,Z,hk,h1,h2,h3⟩:=mulK_eq f (e/2) (by rw[Nat.pow_succ] at h;omega)
  obtain ⟨X2,Y2,Z2,hk2,e2⟩:=JK_eq X Y Z X Y Z
  obtain ⟨a1,a2,a3⟩:=J3_ok h1 h2 h1 h2
  rw[← e2] at a1 a2 a3
  rw[h3,← mulP_add G_on] at a3
  have hm:e%2=0∨e%2=1:=by omega
  rcases hm with hm | hm
  ·refine ⟨X2,Y2,Z2,fun α k=>?_,a1,a2,?_⟩
   ·rw[mulK,hk,hk2,hm]
   ·rw[a3];congr 1;omega
  ·obtain ⟨X3,Y3,Z3,hk3,e3⟩:=JK_eq X2 Y2 Z2 Gx Gy 1
   have hg1:onT (cT Gx Gy 1):=by rw[← spr_G];exact spr_on G_on
   have hg2:nzT (cT Gx Gy 1):=by rw[← spr_G];exact spr_nz fc _
   obtain ⟨b1,b2,b3⟩:=J3_ok a1 a2 hg1 hg2
   rw[← e3] at b1 b2 b3
   refine ⟨X3,Y3,Z3,fun α k=>?_,b1,b2,?_⟩
   ·rw[mulK,hk,hk2,hm];exact hk3 α k
   ·rw[b3,a3,← spr_G,nrm_spr fc]
    show mulP (e/2+e/2+1) Gp'=mulP e Gp'
    congr 1;omega
theorem nG:mulP On Gp'=none:=by
 obtain ⟨X,Y,Z,hk,h1,h2,h3⟩:=mulK_eq 256 On On_lt
 have h:=nG0
 rw[hk] at h
 rw[← h3]
 unfold nrm cT
 simp only[]
 rw[if_pos]
 rw[Nat.eq_of_beq_eq_true h,cf_zero]
theorem ord_dvd{P:Pt}(hP:onP P)(hn:mulP On P=none)(h1:P≠none)(k:Nat)(hk:mulP k P=none):On∣k:=by
 refine Decidable.byContradiction fun hd=>h1 ?_
 have hc:Nat.Coprime k On:=On_prime.cop hd
 have hmm:∀ m,mulP m P=none→∀ j,mulP (j*m) P=none:=fun m hm j=>by rw[mulP_mul hP,hm,mulP_none]
 have hmod:∀ a b,mulP a P=none→mulP b P=none→mulP (a%b) P=none:=fun a b ha hb=>by
  have e:=mulP_add hP (a%b) (a/b*b)
  rw[hmm b hb,padd_none_r (mulP_on hP _),Nat.mul_comm,Nat.mod_add_div,ha] at e
  exact e.symm
 have hg:∀ a b,mulP a P=none→mulP b P=none→mulP (Nat.gcd a b) P=none:=by
  intro a
  induction a using Nat.strongRecOn with
  | _ a ih=>
   intro b ha hb
   by_cases h0:a=0
   ·subst h0;rw[Nat.gcd_zero_left];exact hb
   ·rw[Nat.gcd_rec]
    exact ih (b%a) (Nat.mod_lt _ (by omega)) a (hmod b a hb ha) ha
 have:=hg k On hk hn
 rw[hc] at this
 rw[mulP_one hP] at this
 exact this
theorem mulP_two{P:Pt}(hP:onP P):mulP 2 P=padd ivF P P:=by
 have h:=mulP_add hP 1 1
 rw[mulP_one hP] at h
 exact h
theorem G_nn:Gp'≠none:=fun h=>by cases h
theorem neg_val{y:Fin Pp}(h:y≠0):(- y).val=Pp-y.val:=by
 have h0:y.val≠0:=fun e=>h (Fin.ext (by simpa using e))
 rw[Fin.neg_def]
 simp only[]
 exact Nat.mod_eq_of_lt (by have:=y.isLt;omega)
theorem sq_eq{a b:Fin Pp}(h:a*a=b*b):a=b∨a = - b:=by
 have k:(a-b)*(a+b)=0:=by rw[rg9];exact sub_self' h
 rcases fc.nz _ _ k with h | h
 ·exact .inl (sub_eq h)
 ·exact .inr (rg10 h)
theorem odd_neg{y:Fin Pp}(h:y≠0):(- y).val%2=1-y.val%2:=by
 rw[neg_val h]
 have:=y.isLt
 have:=Pp_odd
 omega
theorem code_inj{P Q:Pt}(hP:onP P)(hQ:onP Q)(h:codeP P=codeP Q):P=Q:=by
 cases P with
 | none=>cases Q with
  | none=>rfl
  | some q=>
   obtain ⟨u,v⟩:=q
   have h':2*Pp=2*u.val+v.val%2:=h
   have:=u.isLt
   omega
 | some p=>
  obtain ⟨x,y⟩:=p
  cases Q with
  | none=>
   have h':2*x.val+y.val%2=2*Pp:=h
   have:=x.isLt
   omega
  | some q=>
   obtain ⟨u,v⟩:=q
   have h':2*x.val+y.val%2=2*u.val+v.val%2:=h
   have hx:x=u:=Fin.ext (by omega)
   subst hx
   have h1:y*y=x*x*x+7:=hP
   have h2:v*v=x*x*x+7:=hQ
   rcases sq_eq (h1.trans h2.symm) with e | e
   ·rw[e]
   ·have:=odd_neg (y_nz fc h2)
    rw[← e] at this
    omega
theorem two_none{Q:Pt}(hQ:onP Q)(h:padd ivF Q Q=none):Q=none:=by
 cases Q with
 | none=>rfl
 | some q=>
  obtain ⟨x,y⟩:=q
  exfalso
  have hc:y*y=x*x*x+7:=hQ
  have hZ:jz x y 1 x y 1≠0:=by rw[d_jz hc];exact nz_mul n8 (nz_mul (y_nz fc hc) (nz_mul (y_nz fc hc) (y_nz fc hc)))
  obtain ⟨x3,y3,hn,_,_⟩:=nrm_of (X:=jx x y 1 x y 1) (Y:=jy x y 1 x y 1) hZ
  have hp:padd ivF (some (x,y)) (some (x,y))=some (x3,y3):=hn
  rw[h] at hp
  cases hp
theorem padd_right{A B C:Pt}(hA:onP A)(hB:onP B)(hC:onP C)(h:padd ivF A C=padd ivF B C):A=B:=by
 have:=padd_cancel fc hA hC
 rw[h,padd_cancel fc hB hC] at this
 exact this.symm
theorem mulG_inj{i j:Nat}(hi:i<On)(hj:j<On)(h:mulP i Gp'=mulP j Gp'):i=j:=by
 have key:∀ a b,a≤b→b<On→mulP a Gp'=mulP b Gp'→a=b:=fun a b hab hb e=>by
  have e2:mulP (b-a) Gp'=none:=by
   refine padd_right (mulP_on G_on _) (B:=none) trivial (mulP_on G_on a) ?_
   rw[← mulP_add G_on,padd_none fc (mulP_on G_on a),show b-a+a=b by omega]
   exact e.symm
  have hd:=ord_dvd G_on nG G_nn _ e2
  rcases Nat.eq_zero_or_pos (b-a) with h | h
  ·omega
  ·have:=Nat.le_of_dvd h hd
   omega
 rcases Nat.le_total i j with h' | h'
 ·exact key i j h' hj h
 ·exact (key j i h' hi h.symm).symm
theorem mulP_mod{P:Pt}(hP:onP P)(hn:mulP On P=none)(k:Nat):mulP (k%On) P=mulP k P:=by
 have e:=mulP_add hP (k%On) (k/On*On)
 rw[mulP_mul hP,hn,mulP_none,padd_none_r (mulP_on hP _),Nat.mul_comm,Nat.mod_add_div] at e
 exact e.symm
theorem mulP_cancel{P:Pt}(hP:onP P)(hn:mulP On P=none){k:Nat}(hk:k≤On):pneg (mulP k P)=mulP (On-k) P:=by
 have e:=mulP_add hP (On-k) k
 rw[Nat.sub_add_cancel hk,hn] at e
 have h:=padd_cancel fc (mulP_on hP (On-k)) (mulP_on hP k)
 rw[← e,padd_none fc (pneg_on (mulP_on hP k))] at h
 exact h
theorem ite_on{c:Prop}[Decidable c]{A B:Pt}(hA:onP A)(hB:onP B):onP (if c then A else B):=by split<;>assumption
theorem row_on{P:Pt}(hP:onP P)(n i:Nat):onP (if i<n then mulP i Gp' else if i<2*n then padd ivF P (mulP (i-n) Gp') else padd ivF (pneg P) (mulP (i-2*n) Gp')):=ite_on (mulP_on G_on i) (ite_on (padd_on fc hP (mulP_on G_on (i-n))) (padd_on fc (pneg_on hP) (mulP_on G_on (i-2*n))))
theorem is_mul{P:Pt}(hP:onP P):∃ k,P=mulP k Gp':=by
 refine Classical.byContradiction fun hno=>?_
 have hne:∀ k,P≠mulP k Gp':=fun k e=>hno ⟨k,e⟩
 have neg_is:∀ k,∃ j,pneg (mulP k Gp')=mulP j Gp':=fun k=>by
  rw[← mulP_mod G_on nG k]
  exact ⟨_,mulP_cancel G_on nG (Nat.le_of_lt (Nat.mod_lt _ (by have:=On_pos;omega)))⟩
 have c1:∀ i j,padd ivF P (mulP i Gp')≠mulP j Gp':=fun i j e=>by
  have h:=padd_cancel fc hP (mulP_on G_on i)
  obtain ⟨m,hm⟩:=neg_is i
  rw[e,hm,← mulP_add G_on] at h
  exact hne _ h.symm
 have hnP:=pneg_on hP
 have c2:∀ i j,padd ivF (pneg P) (mulP i Gp')≠mulP j Gp':=fun i j e=>by
  have h:=padd_cancel fc hnP (mulP_on G_on i)
  obtain ⟨m,hm⟩:=neg_is i
  rw[e,hm,← mulP_add G_on] at h
  have h2:=congrArg pneg h
  rw[pneg_pneg] at h2
  obtain ⟨m2,hm2⟩:=neg_is (j+m)
  rw[hm2] at h2
  exact hne _ h2.symm
 have c3:∀ i j,padd ivF P (mulP i Gp')≠padd ivF (pneg P) (mulP j Gp'):=fun i j e=>by
  have e1:padd ivF P P=padd ivF (mulP j Gp') (pneg (mulP i Gp')):=by
   have h:=padd_cancel fc hP (mulP_on G_on i)
   rw[e] at h
   have h2:padd ivF (padd ivF (padd ivF (pneg P) (mulP j Gp')) (pneg (mulP i Gp'))) P=padd ivF P P:=congrArg (fun t=>padd ivF t P) h
   rw[← h2,padd_assoc fc (padd_on fc hnP (mulP_on G_on j)) (pneg_on (mulP_on G_on i)) hP,padd_comm (pneg (mulP i Gp')) P,← padd_assoc fc (padd_on fc hnP (mulP_on G_on j)) hP (pneg_on (mulP_on G_on i)),padd_comm (pneg P),padd_assoc fc (mulP_on G_on j) hnP hP,padd_comm (pneg P) P,padd_neg fc hP,padd_none_r (mulP_on G_on j)]
  obtain ⟨m,hm⟩:=neg_is i
  rw[hm,← mulP_add G_on] at e1
  have hH:∃ h,On=2*h+1:=⟨On/2,by have:=On_odd;omega⟩
  obtain ⟨h,hh⟩:=hH
  have e2:mulP 2 (mulP ((h+1)*(j+m)) Gp')=padd ivF P P:=by
   rw[e1,← mulP_mul G_on,← mulP_mod G_on nG (2*((h+1)*(j+m))),← mulP_mod G_on nG (j+m)]
   congr 1
   rw[show 2*((h+1)*(j+m))=(j+m)+On*(j+m) by rw[hh];exact two_c h _]
   exact Nat.add_mul_mod_self_left _ _ _
  obtain ⟨q,hq⟩:=neg_is ((h+1)*(j+m))
  have hQ:onP (padd ivF P (mulP q Gp')):=padd_on fc hP (mulP_on G_on q)
  have e3:padd ivF (padd ivF P (mulP q Gp')) (padd ivF P (mulP q Gp'))=none:=by
   rw[four_on hP (mulP_on G_on q) hP (mulP_on G_on q),← e2]
   have h4:=mulP_padd (mulP_on G_on ((h+1)*(j+m))) (mulP_on G_on q) 2
   rw[mulP_two (mulP_on G_on q),← hq,padd_neg fc (mulP_on G_on _),mulP_none] at h4
   rw[← hq,← h4]
  have e4:=two_none hQ e3
  exact c1 q 0 e4
 have hpig:=pigeon (3*On) (2*Pp+1) (fun i=>codeP (if i<On then mulP i Gp' else if i<2*On then padd ivF P (mulP (i-On) Gp') else padd ivF (pneg P) (mulP (i-2*On) Gp'))) (fun i _=>code_lt _) ?_
 ·have:=cnt;omega
 ·intro i j hi hj e
  have on1:∀ i:Nat,onP (if i<On then mulP i Gp' else if i<2*On then padd ivF P (mulP (i-On) Gp') else padd ivF (pneg P) (mulP (i-2*On) Gp')):=row_on hP On
  have e:=code_inj (on1 i) (on1 j) e
  have cn:∀ (A:Pt),onP A→∀ a b:Nat,a<On→b<On→padd ivF A (mulP a Gp')=padd ivF A (mulP b Gp')→a=b:=fun A hA a b ha hb e=>by
   rw[padd_comm,padd_comm _ (mulP b Gp')] at e
   exact mulG_inj ha hb (padd_right (mulP_on G_on a) (mulP_on G_on b) hA e)
  by_cases a1:i<On
  ·rw[if_pos a1] at e
   by_cases b1:j<On
   ·rw[if_pos b1] at e;exact mulG_inj a1 b1 e
   ·rw[if_neg b1] at e
    by_cases b2:j<2*On
    ·rw[if_pos b2] at e;exact absurd e.symm (c1 _ _)
    ·rw[if_neg b2] at e;exact absurd e.symm (c2 _ _)
  ·rw[if_neg a1] at e
   by_cases a2:i<2*On
   ·rw[if_pos a2] at e
    by_cases b1:j<On
    ·rw[if_pos b1] at e;exact absurd e (c1 _ _)
    ·rw[if_neg b1] at e
     by_cases b2:j<2*On
     ·rw[if_pos b2] at e
      have:=cn P hP (i-On) (j-On) (by omega) (by omega) e
      omega
     ·rw[if_neg b2] at e;exact absurd e (c3 _ _)
   ·rw[if_neg a2] at e
    by_cases b1:j<On
    ·rw[if_pos b1] at e;exact absurd e (c2 _ _)
    ·rw[if_neg b1] at e
     by_cases b2:j<2*On
     ·rw[if_pos b2] at e;exact absurd e.symm (c3 _ _)
     ·rw[if_neg b2] at e
      have:=cn (pneg P) hnP (i-2*On) (j-2*On) (by omega) (by omega) e
      omega
theorem all_order{P:Pt}(hP:onP P):mulP On P=none:=by
 obtain ⟨k,rfl⟩:=is_mul hP
 rw[← mulP_mul G_on,Nat.mul_comm,mulP_mul G_on,nG,mulP_none]
end
end
section
open Go.RowKit
theorem run_eq4d(d:Nat)(a0 a1 a2 a3 b0 b1 b2 b3:Int)(w:World) :
  (Op.equalIn (d+2) 24 (I4 a0 a1 a2 a3) (I4 b0 b1 b2 b3)).run Tryz.prog w=.ok (a0 == b0&&(a1 == b1&&(a2 == b2&&a3 == b3))) w:=by
 rw[run_equalIn_array w (d+1) _ _ Tryz.underlying24 info22,cells22,show List.range 4=[0,1,2,3] from rfl]
 simp[Op.eqItems,part,isAgg,run_underlying Tryz.underlying22,run_equalIn_int w d 22 .u64 .u64 _ _ Tryz.underlying22]
 by_cases h0:a0=b0<;>by_cases h1:a1=b1<;>by_cases h2:a2=b2<;>by_cases h3:a3=b3<;>simp[*]
theorem run_eqUd(d n m:Nat)(hn:n<W)(hm:m<W)(w:World) :
  (Op.equalIn (d+2) 24 (U n) (U m)).run Tryz.prog w=.ok (decide (n=m)) w:=by
 refine (run_eq4d d (l0 n) (l1 n) (l2 n) (l3 n) (l0 m) (l1 m) (l2 m) (l3 m) w).trans ?_
 congr 1
 rw[Bool.eq_iff_iff]
 simp only[Bool.and_eq_true,beq_iff_eq,decide_eq_true_eq]
 constructor
 ·rintro ⟨h0,h1,h2,h3⟩
  exact parts_inj n m hn hm (by omega) (by omega) (by omega) (by omega)
 ·rintro rfl;exact ⟨rfl,rfl,rfl,rfl⟩
theorem run_eqB(d:Nat)(n m:Bool)(w:World):(Op.equalIn (d+1) 4 (.bool n) (.bool m)).run Tryz.prog w=.ok (n == m) w:=by simp[Op.equalIn,run_underlying Tryz.underlying4]
theorem info24:Tryz.prog.info? 24=some ((Tryz.prog.info? 24).getD default):=by kernel_rfl
theorem size24:Tryz.prog.cellsOf 24=4:=by kernel_rfl
end
end Go.Proofs.YtfhppenjbmmadaaGreatDoor
