import Derived.Test.YtfhppenjbmmadaaGreatDoorXmM23
namespace Go.Proofs.YtfhppenjbmmadaaGreatDoor
set_option linter.unusedVariables false
set_option maxHeartbeats 8000000
section
def a0 (x y:Nat) (k:Nat→Bool):Bool:=fo (Nat.mod (Nat.add x y) 115792089237316195423570985008687907853269984665640564039457584007908834671663) k
def m0 (x y:Nat) (k:Nat→Bool):Bool:=fo (Nat.mod (Nat.mul x y) 115792089237316195423570985008687907853269984665640564039457584007908834671663) k
def n0 (x:Nat) (k:Nat→Bool):Bool:=fo (Nat.mod (Nat.sub 115792089237316195423570985008687907853269984665640564039457584007908834671663 (Nat.mod x 115792089237316195423570985008687907853269984665640564039457584007908834671663)) 115792089237316195423570985008687907853269984665640564039457584007908834671663) k
section
variable [NeZero Pp]
def cf (c:Nat):Fin Pp:=Fin.ofNat Pp c
theorem cf_mod(c:Nat):cf (c%Pp)=cf c:=by unfold cf;apply Fin.ext;simp[Fin.ofNat]
theorem cf_add(a b:Nat):cf (a+b)=cf a+cf b:=by unfold cf;apply Fin.ext;simp[Fin.ofNat,Fin.add_def]
theorem cf_mul(a b:Nat):cf (a*b)=cf a*cf b:=by unfold cf;apply Fin.ext;simp[Fin.ofNat,Fin.mul_def,Nat.mul_mod]
theorem cf_zero:cf 0=0:=by unfold cf;apply Fin.ext;simp[Fin.ofNat]
theorem cf_one:cf 1=1:=by unfold cf;rfl
theorem cf_seven:cf 7=7:=by unfold cf;rfl
theorem m_z(a:Fin Pp):a*0=0:=by apply Fin.ext;simp[Fin.mul_def]
theorem z_m(a:Fin Pp):0*a=0:=by apply Fin.ext;simp[Fin.mul_def]
theorem n_z:(- 0:Fin Pp)=0:=by apply Fin.ext;simp[Fin.neg_def]
theorem a0_sp(a b:Nat):∃ c,(∀ k,a0 a b k=k c)∧cf c=cf a+cf b:=⟨(a+b)%Pp,fun k=>fo_eq _ _,by rw[cf_mod,cf_add]⟩
theorem m0_sp(a b:Nat):∃ c,(∀ k,m0 a b k=k c)∧cf c=cf a*cf b:=⟨(a*b)%Pp,fun k=>fo_eq _ _,by rw[cf_mod,cf_mul]⟩
theorem n0_sp(a:Nat):∃ c,(∀ k,n0 a k=k c)∧cf c = - cf a:=⟨(Pp-a%Pp)%Pp,fun k=>fo_eq _ _,by
 have h:cf (Pp-a%Pp)+cf (a%Pp)=0:=by
  rw[← cf_add,Nat.sub_add_cancel (Nat.le_of_lt (Nat.mod_lt _ (by decide))),← cf_mod,Nat.mod_self,cf_zero]
 rw[cf_mod] at h ⊢
 grind⟩
end
abbrev P1:Type:=List Nat
abbrev Q1:Type:=P1×P1
def cn1 (c:Nat) (r:P1) (k:P1→Bool):Bool:=
 match r with
 | []=>match c with | 0=>k [] | m+1=>k [Nat.add m 1]
 | a::q=>k (c::a::q)
def aPk1:P1→P1→(P1→Bool)→Bool
 | [],q,k=>k q
 | a::p,[],k=>k (a::p)
 | a::p,b::q,k=>a0 a b fun c=>aPk1 p q fun r=>cn1 c r k
def sPl1 (a:Nat):P1→(P1→Bool)→Bool
 | [],k=>k []
 | b::q,k=>m0 a b fun c=>sPl1 a q fun r=>cn1 c r k
def sPk1 (a:Nat) (q:P1) (k:P1→Bool):Bool:=match a with | 0=>k [] | m+1=>sPl1 (Nat.add m 1) q k
def mPk1:P1→P1→(P1→Bool)→Bool
 | [],_,k=>k []
 | a::p,q,k=>sPk1 a q fun s=>mPk1 p q fun r=>match r with | []=>k s | b::t=>aPk1 s (0::b::t) k
def nPk1:P1→(P1→Bool)→Bool
 | [],k=>k []
 | a::p,k=>n0 a fun c=>nPk1 p fun r=>k (c::r)
def cub1:P1:=[7,0,0,1]
def aQk1 (p q:Q1) (k:Q1→Bool):Bool:=match p,q with | (a,b),(c,d)=>aPk1 a c fun r=>aPk1 b d fun s=>k (r,s)
def nQk1 (p:Q1) (k:Q1→Bool):Bool:=match p with | (a,b)=>nPk1 a fun r=>nPk1 b fun s=>k (r,s)
def mQk1 (p q:Q1) (k:Q1→Bool):Bool:=
 match p,q with
 | (a,b),(c,d)=>mPk1 b d fun bd=>mPk1 bd cub1 fun e=>mPk1 a c fun ac=>aPk1 ac e fun r=>mPk1 a d fun ad=>mPk1 b c fun bc=>aPk1 ad bc fun s=>k (r,s)
def k1 (n:Nat):Q1:=([n],[])
def qP1:P1→P1→Bool
 | [],[]=>true
 | a::p,b::q=>match Nat.beq a b with | true=>qP1 p q | false=>false
 | _,_=>false
def qQ1 (p q:Q1):Bool:=match qP1 p.1 q.1 with | true=>qP1 p.2 q.2 | false=>false
section
variable [NeZero Pp] (v:Nat→Fin Pp)
def eP1:P1→Fin Pp
 | []=>0
 | a::p=>cf a+v 0*eP1 p
def eQ1 (p:Q1):Fin Pp:=eP1 v p.1+v 1*eP1 v p.2
theorem eQ1_zero:eQ1 v ([],[])=0:=by show (0:Fin Pp)+v 1*0=0;rw[m_z,Fin.add_zero]
theorem k1_ev(n:Nat):eQ1 v (k1 n)=cf n:=by show cf n+v 0*0+v 1*0=cf n;grind
theorem cub1_ev:eP1 v cub1=v 0*v 0*v 0+7:=by show cf 7+v 0*(cf 0+v 0*(cf 0+v 0*(cf 1+v 0*0)))=v 0*v 0*v 0+7;rw[cf_zero,cf_one,cf_seven];grind
theorem cn1_sp(c:Nat)(r:P1):∃ s,(∀ k,cn1 c r k=k s)∧eP1 v s=cf c+v 0*eP1 v r:=by
 cases r with
 | nil=>
  cases c with
  | zero=>exact ⟨[],fun k=>rfl,by show (0:Fin Pp)=cf 0+v 0*0;rw[cf_zero];simp[m_z]⟩
  | succ m=>exact ⟨[Nat.add m 1],fun k=>rfl,rfl⟩
 | cons a q=>exact ⟨c::a::q,fun k=>rfl,rfl⟩
theorem aP1_sp:∀ p q:P1,∃ r,(∀ k,aPk1 p q k=k r)∧eP1 v r=eP1 v p+eP1 v q
 | [],q=>⟨q,fun k=>by rw[aPk1],by show eP1 v q=0+eP1 v q;grind⟩
 | a::p,[]=>⟨a::p,fun k=>by rw[aPk1],by show eP1 v (a::p)=eP1 v (a::p)+0;grind⟩
 | a::p,b::q=>by
  obtain ⟨c,hc,ec⟩:=a0_sp a b
  obtain ⟨r,hr,er⟩:=aP1_sp p q
  obtain ⟨s,hs,es⟩:=cn1_sp v c r
  refine ⟨s,fun k=>by rw[aPk1,hc,hr,hs],?_⟩
  show eP1 v s=(cf a+v 0*eP1 v p)+(cf b+v 0*eP1 v q)
  rw[es,ec,er]
  grind
theorem sPl1_sp(a:Nat):∀ q:P1,∃ r,(∀ k,sPl1 a q k=k r)∧eP1 v r=cf a*eP1 v q
 | []=>⟨[],fun k=>by rw[sPl1],by show (0:Fin Pp)=_*0;rw[m_z]⟩
 | b::q=>by
  obtain ⟨c,hc,ec⟩:=m0_sp a b
  obtain ⟨r,hr,er⟩:=sPl1_sp a q
  obtain ⟨s,hs,es⟩:=cn1_sp v c r
  refine ⟨s,fun k=>by rw[sPl1,hc,hr,hs],?_⟩
  show eP1 v s=cf a*(cf b+v 0*eP1 v q)
  rw[es,ec,er]
  grind
theorem sP1_sp(a:Nat)(q:P1):∃ r,(∀ k,sPk1 a q k=k r)∧eP1 v r=cf a*eP1 v q:=by
 cases a with
 | zero=>exact ⟨[],fun k=>rfl,by show (0:Fin Pp)=cf 0*_;rw[cf_zero];simp[z_m]⟩
 | succ m=>exact sPl1_sp v (Nat.add m 1) q
theorem mP1_sp:∀ p q:P1,∃ r,(∀ k,mPk1 p q k=k r)∧eP1 v r=eP1 v p*eP1 v q
 | [],q=>⟨[],fun k=>by rw[mPk1],by show (0:Fin Pp)=0*eP1 v q;rw[z_m]⟩
 | a::p,q=>by
  obtain ⟨s,hs,es⟩:=sP1_sp v a q
  obtain ⟨r,hr,er⟩:=mP1_sp p q
  cases r with
  | nil=>
   refine ⟨s,fun k=>by rw[mPk1,hs,hr],?_⟩
   have er':(0:Fin Pp)=eP1 v p*eP1 v q:=er
   show eP1 v s=(cf a+v 0*eP1 v p)*eP1 v q
   rw[es]
   grind
  | cons b t=>
   obtain ⟨u,hu,eu⟩:=aP1_sp v s (0::b::t)
   refine ⟨u,fun k=>by rw[mPk1,hs,hr];exact hu k,?_⟩
   show eP1 v u=(cf a+v 0*eP1 v p)*eP1 v q
   rw[eu,es,show eP1 v (0::b::t)=cf 0+v 0*eP1 v (b::t) from rfl,er,cf_zero]
   grind
theorem nP1_sp:∀ p:P1,∃ r,(∀ k,nPk1 p k=k r)∧eP1 v r = - eP1 v p
 | []=>⟨[],fun k=>by rw[nPk1],by show (0:Fin Pp) = - 0;rw[n_z]⟩
 | a::p=>by
  obtain ⟨c,hc,ec⟩:=n0_sp a
  obtain ⟨r,hr,er⟩:=nP1_sp p
  refine ⟨c::r,fun k=>by rw[nPk1,hc,hr],?_⟩
  show cf c+v 0*eP1 v r = - (cf a+v 0*eP1 v p)
  rw[ec,er]
  grind
theorem aQ1_sp(p q:Q1):∃ r,(∀ k,aQk1 p q k=k r)∧eQ1 v r=eQ1 v p+eQ1 v q:=by
 obtain ⟨a,b⟩:=p
 obtain ⟨c,d⟩:=q
 obtain ⟨r,hr,er⟩:=aP1_sp v a c
 obtain ⟨s,hs,es⟩:=aP1_sp v b d
 refine ⟨(r,s),fun k=>by rw[aQk1];show aPk1 a c _=_;rw[hr,hs],?_⟩
 show eP1 v r+v 1*eP1 v s=(eP1 v a+v 1*eP1 v b)+(eP1 v c+v 1*eP1 v d)
 rw[er,es]
 grind
theorem nQ1_sp(p:Q1):∃ r,(∀ k,nQk1 p k=k r)∧eQ1 v r = - eQ1 v p:=by
 obtain ⟨a,b⟩:=p
 obtain ⟨r,hr,er⟩:=nP1_sp v a
 obtain ⟨s,hs,es⟩:=nP1_sp v b
 refine ⟨(r,s),fun k=>by rw[nQk1];show nPk1 a _=_;rw[hr,hs],?_⟩
 show eP1 v r+v 1*eP1 v s = - (eP1 v a+v 1*eP1 v b)
 rw[er,es]
 grind
theorem mQ1_sp(h1:v 1*v 1=v 0*v 0*v 0+7)(p q:Q1):∃ r,(∀ k,mQk1 p q k=k r)∧eQ1 v r=eQ1 v p*eQ1 v q:=by
 obtain ⟨a,b⟩:=p
 obtain ⟨c,d⟩:=q
 obtain ⟨bd,g1,e1⟩:=mP1_sp v b d
 obtain ⟨e,g2,e2⟩:=mP1_sp v bd cub1
 obtain ⟨ac,g3,e3⟩:=mP1_sp v a c
 obtain ⟨r,g4,e4⟩:=aP1_sp v ac e
 obtain ⟨ad,g5,e5⟩:=mP1_sp v a d
 obtain ⟨bc,g6,e6⟩:=mP1_sp v b c
 obtain ⟨s,g7,e7⟩:=aP1_sp v ad bc
 refine ⟨(r,s),fun k=>by rw[mQk1];show mPk1 b d _=_;rw[g1,g2,g3,g4,g5,g6,g7],?_⟩
 show eP1 v r+v 1*eP1 v s=(eP1 v a+v 1*eP1 v b)*(eP1 v c+v 1*eP1 v d)
 rw[e4,e3,e2,e1,cub1_ev,e7,e5,e6]
 generalize eP1 v a=ta
 generalize eP1 v b=tb
 generalize eP1 v c=tc
 generalize eP1 v d=td
 generalize v 0=tx at *
 generalize v 1=ty at *
 grind
theorem qP1_ev:∀ p q:P1,qP1 p q=true→eP1 v p=eP1 v q
 | [],[],_=>rfl
 | [],_::_,h=>by rw[qP1] at h;cases h;all_goals (intros;contradiction)
 | _::_,[],h=>by rw[qP1] at h;cases h;all_goals (intros;contradiction)
 | a::p,b::q,h=>by
  rw[qP1] at h
  split at h
  ·next e=>
   show cf a+v 0*eP1 v p=cf b+v 0*eP1 v q
   rw[qP1_ev p q h,Nat.eq_of_beq_eq_true e]
  ·cases h
theorem qQ1_ev(p q:Q1)(h:qQ1 p q=true):eQ1 v p=eQ1 v q:=by
 rw[qQ1] at h
 split at h
 ·next e=>unfold eQ1;rw[qP1_ev v _ _ e,qP1_ev v _ _ h]
 ·cases h
end
abbrev P2:Type:=List Q1
abbrev Q2:Type:=P2×P2
def cn2 (c:Q1) (r:P2) (k:P2→Bool):Bool:=
 match r with
 | []=>match c with | ([],[])=>k [] | (u::t,d)=>k [(u::t,d)] | ([],u::t)=>k [([],u::t)]
 | a::q=>k (c::a::q)
def aPk2:P2→P2→(P2→Bool)→Bool
 | [],q,k=>k q
 | a::p,[],k=>k (a::p)
 | a::p,b::q,k=>aQk1 a b fun c=>aPk2 p q fun r=>cn2 c r k
def sPl2 (a:Q1):P2→(P2→Bool)→Bool
 | [],k=>k []
 | b::q,k=>mQk1 a b fun c=>sPl2 a q fun r=>cn2 c r k
def sPk2 (a:Q1) (q:P2) (k:P2→Bool):Bool:=match a with | ([],[])=>k [] | (u::t,d)=>sPl2 (u::t,d) q k | ([],u::t)=>sPl2 ([],u::t) q k
def mPk2:P2→P2→(P2→Bool)→Bool
 | [],_,k=>k []
 | a::p,q,k=>sPk2 a q fun s=>mPk2 p q fun r=>match r with | []=>k s | b::t=>aPk2 s (([],[])::b::t) k
def nPk2:P2→(P2→Bool)→Bool
 | [],k=>k []
 | a::p,k=>nQk1 a fun c=>nPk2 p fun r=>k (c::r)
def cub2:P2:=[k1 7,([],[]),([],[]),k1 1]
def aQk2 (p q:Q2) (k:Q2→Bool):Bool:=match p,q with | (a,b),(c,d)=>aPk2 a c fun r=>aPk2 b d fun s=>k (r,s)
def nQk2 (p:Q2) (k:Q2→Bool):Bool:=match p with | (a,b)=>nPk2 a fun r=>nPk2 b fun s=>k (r,s)
def mQk2 (p q:Q2) (k:Q2→Bool):Bool:=
 match p,q with
 | (a,b),(c,d)=>mPk2 b d fun bd=>mPk2 bd cub2 fun e=>mPk2 a c fun ac=>aPk2 ac e fun r=>mPk2 a d fun ad=>mPk2 b c fun bc=>aPk2 ad bc fun s=>k (r,s)
def k2 (n:Nat):Q2:=([k1 n],[])
def qP2:P2→P2→Bool
 | [],[]=>true
 | a::p,b::q=>match qQ1 a b with | true=>qP2 p q | false=>false
 | _,_=>false
def qQ2 (p q:Q2):Bool:=match qP2 p.1 q.1 with | true=>qP2 p.2 q.2 | false=>false
section
variable [NeZero Pp] (v:Nat→Fin Pp)
def eP2:P2→Fin Pp
 | []=>0
 | a::p=>eQ1 v a+v 2*eP2 p
def eQ2 (p:Q2):Fin Pp:=eP2 v p.1+v 3*eP2 v p.2
theorem eQ2_zero:eQ2 v ([],[])=0:=by show (0:Fin Pp)+v 3*0=0;rw[m_z,Fin.add_zero]
theorem k2_ev(n:Nat):eQ2 v (k2 n)=cf n:=by show eQ1 v (k1 n)+v 2*0+v 3*0=cf n;rw[k1_ev];grind
theorem cub2_ev:eP2 v cub2=v 2*v 2*v 2+7:=by show eQ1 v (k1 7)+v 2*(eQ1 v ([],[])+v 2*(eQ1 v ([],[])+v 2*(eQ1 v (k1 1)+v 2*0)))=v 2*v 2*v 2+7;rw[k1_ev,k1_ev,eQ1_zero,cf_one,cf_seven];grind
theorem cn2_sp(c:Q1)(r:P2):∃ s,(∀ k,cn2 c r k=k s)∧eP2 v s=eQ1 v c+v 2*eP2 v r:=by
 cases r with
 | nil=>
  obtain ⟨c1,c2⟩:=c
  cases c1 with
  | nil=>cases c2 with
   | nil=>exact ⟨[],fun k=>rfl,by show (0:Fin Pp)=eQ1 v ([],[])+v 2*0;rw[eQ1_zero];simp[m_z]⟩
   | cons u t=>exact ⟨[([],u::t)],fun k=>rfl,rfl⟩
  | cons u t=>exact ⟨[(u::t,c2)],fun k=>rfl,rfl⟩
 | cons a q=>exact ⟨c::a::q,fun k=>rfl,rfl⟩
theorem aP2_sp:∀ p q:P2,∃ r,(∀ k,aPk2 p q k=k r)∧eP2 v r=eP2 v p+eP2 v q
 | [],q=>⟨q,fun k=>by rw[aPk2],by show eP2 v q=0+eP2 v q;grind⟩
 | a::p,[]=>⟨a::p,fun k=>by rw[aPk2],by show eP2 v (a::p)=eP2 v (a::p)+0;grind⟩
 | a::p,b::q=>by
  obtain ⟨c,hc,ec⟩:=aQ1_sp v a b
  obtain ⟨r,hr,er⟩:=aP2_sp p q
  obtain ⟨s,hs,es⟩:=cn2_sp v c r
  refine ⟨s,fun k=>by rw[aPk2,hc,hr,hs],?_⟩
  show eP2 v s=(eQ1 v a+v 2*eP2 v p)+(eQ1 v b+v 2*eP2 v q)
  rw[es,ec,er]
  grind
theorem sPl2_sp(h1:v 1*v 1=v 0*v 0*v 0+7)(a:Q1):∀ q:P2,∃ r,(∀ k,sPl2 a q k=k r)∧eP2 v r=eQ1 v a*eP2 v q
 | []=>⟨[],fun k=>by rw[sPl2],by show (0:Fin Pp)=_*0;rw[m_z]⟩
 | b::q=>by
  obtain ⟨c,hc,ec⟩:=mQ1_sp v h1 a b
  obtain ⟨r,hr,er⟩:=sPl2_sp h1 a q
  obtain ⟨s,hs,es⟩:=cn2_sp v c r
  refine ⟨s,fun k=>by rw[sPl2,hc,hr,hs],?_⟩
  show eP2 v s=eQ1 v a*(eQ1 v b+v 2*eP2 v q)
  rw[es,ec,er]
  grind
theorem sP2_sp(h1:v 1*v 1=v 0*v 0*v 0+7)(a:Q1)(q:P2):∃ r,(∀ k,sPk2 a q k=k r)∧eP2 v r=eQ1 v a*eP2 v q:=by
 obtain ⟨c1,c2⟩:=a
 cases c1 with
 | nil=>cases c2 with
  | nil=>exact ⟨[],fun k=>rfl,by show (0:Fin Pp)=eQ1 v ([],[])*_;rw[eQ1_zero];simp[z_m]⟩
  | cons u t=>exact sPl2_sp v h1 ([],u::t) q
 | cons u t=>exact sPl2_sp v h1 (u::t,c2) q
theorem mP2_sp(h1:v 1*v 1=v 0*v 0*v 0+7):∀ p q:P2,∃ r,(∀ k,mPk2 p q k=k r)∧eP2 v r=eP2 v p*eP2 v q
 | [],q=>⟨[],fun k=>by rw[mPk2],by show (0:Fin Pp)=0*eP2 v q;rw[z_m]⟩
 | a::p,q=>by
  obtain ⟨s,hs,es⟩:=sP2_sp v h1 a q
  obtain ⟨r,hr,er⟩:=mP2_sp h1 p q
  cases r with
  | nil=>
   refine ⟨s,fun k=>by rw[mPk2,hs,hr],?_⟩
   have er':(0:Fin Pp)=eP2 v p*eP2 v q:=er
   show eP2 v s=(eQ1 v a+v 2*eP2 v p)*eP2 v q
   rw[es]
   grind
  | cons b t=>
   obtain ⟨u,hu,eu⟩:=aP2_sp v s (([],[])::b::t)
   refine ⟨u,fun k=>by rw[mPk2,hs,hr];exact hu k,?_⟩
   show eP2 v u=(eQ1 v a+v 2*eP2 v p)*eP2 v q
   rw[eu,es,show eP2 v (([],[])::b::t)=eQ1 v ([],[])+v 2*eP2 v (b::t) from rfl,er,eQ1_zero]
   grind
theorem nP2_sp:∀ p:P2,∃ r,(∀ k,nPk2 p k=k r)∧eP2 v r = - eP2 v p
 | []=>⟨[],fun k=>by rw[nPk2],by show (0:Fin Pp) = - 0;rw[n_z]⟩
 | a::p=>by
  obtain ⟨c,hc,ec⟩:=nQ1_sp v a
  obtain ⟨r,hr,er⟩:=nP2_sp p
  refine ⟨c::r,fun k=>by rw[nPk2,hc,hr],?_⟩
  show eQ1 v c+v 2*eP2 v r = - (eQ1 v a+v 2*eP2 v p)
  rw[ec,er]
  grind
theorem aQ2_sp(p q:Q2):∃ r,(∀ k,aQk2 p q k=k r)∧eQ2 v r=eQ2 v p+eQ2 v q:=by
 obtain ⟨a,b⟩:=p
 obtain ⟨c,d⟩:=q
 obtain ⟨r,hr,er⟩:=aP2_sp v a c
 obtain ⟨s,hs,es⟩:=aP2_sp v b d
 refine ⟨(r,s),fun k=>by rw[aQk2];show aPk2 a c _=_;rw[hr,hs],?_⟩
 show eP2 v r+v 3*eP2 v s=(eP2 v a+v 3*eP2 v b)+(eP2 v c+v 3*eP2 v d)
 rw[er,es]
 grind
theorem nQ2_sp(p:Q2):∃ r,(∀ k,nQk2 p k=k r)∧eQ2 v r = - eQ2 v p:=by
 obtain ⟨a,b⟩:=p
 obtain ⟨r,hr,er⟩:=nP2_sp v a
 obtain ⟨s,hs,es⟩:=nP2_sp v b
 refine ⟨(r,s),fun k=>by rw[nQk2];show nPk2 a _=_;rw[hr,hs],?_⟩
 show eP2 v r+v 3*eP2 v s = - (eP2 v a+v 3*eP2 v b)
 rw[er,es]
 grind
theorem mQ2_sp(h1:v 1*v 1=v 0*v 0*v 0+7)(h2:v 3*v 3=v 2*v 2*v 2+7)(p q:Q2):∃ r,(∀ k,mQk2 p q k=k r)∧eQ2 v r=eQ2 v p*eQ2 v q:=by
 obtain ⟨a,b⟩:=p
 obtain ⟨c,d⟩:=q
 obtain ⟨bd,g1,e1⟩:=mP2_sp v h1 b d
 obtain ⟨e,g2,e2⟩:=mP2_sp v h1 bd cub2
 obtain ⟨ac,g3,e3⟩:=mP2_sp v h1 a c
 obtain ⟨r,g4,e4⟩:=aP2_sp v ac e
 obtain ⟨ad,g5,e5⟩:=mP2_sp v h1 a d
 obtain ⟨bc,g6,e6⟩:=mP2_sp v h1 b c
 obtain ⟨s,g7,e7⟩:=aP2_sp v ad bc
 refine ⟨(r,s),fun k=>by rw[mQk2];show mPk2 b d _=_;rw[g1,g2,g3,g4,g5,g6,g7],?_⟩
 show eP2 v r+v 3*eP2 v s=(eP2 v a+v 3*eP2 v b)*(eP2 v c+v 3*eP2 v d)
 rw[e4,e3,e2,e1,cub2_ev,e7,e5,e6]
 generalize eP2 v a=ta
 generalize eP2 v b=tb
 generalize eP2 v c=tc
 generalize eP2 v d=td
 generalize v 2=tx at *
 generalize v 3=ty at *
 grind
theorem qP2_ev:∀ p q:P2,qP2 p q=true→eP2 v p=eP2 v q
 | [],[],_=>rfl
 | [],_::_,h=>by rw[qP2] at h;cases h;all_goals (intros;contradiction)
 | _::_,[],h=>by rw[qP2] at h;cases h;all_goals (intros;contradiction)
 | a::p,b::q,h=>by
  rw[qP2] at h
  split at h
  ·next e=>
   show eQ1 v a+v 2*eP2 v p=eQ1 v b+v 2*eP2 v q
   rw[qP2_ev p q h,qQ1_ev v a b e]
  ·cases h
theorem qQ2_ev(p q:Q2)(h:qQ2 p q=true):eQ2 v p=eQ2 v q:=by
 rw[qQ2] at h
 split at h
 ·next e=>unfold eQ2;rw[qP2_ev v _ _ e,qP2_ev v _ _ h]
 ·cases h
end
abbrev P3:Type:=List Q2
abbrev Q3:Type:=P3×P3
def cn3 (c:Q2) (r:P3) (k:P3→Bool):Bool:=
 match r with
 | []=>match c with | ([],[])=>k [] | (u::t,d)=>k [(u::t,d)] | ([],u::t)=>k [([],u::t)]
 | a::q=>k (c::a::q)
def aPk3:P3→P3→(P3→Bool)→Bool
 | [],q,k=>k q
 | a::p,[],k=>k (a::p)
 | a::p,b::q,k=>aQk2 a b fun c=>aPk3 p q fun r=>cn3 c r k
def sPl3 (a:Q2):P3→(P3→Bool)→Bool
 | [],k=>k []
 | b::q,k=>mQk2 a b fun c=>sPl3 a q fun r=>cn3 c r k
def sPk3 (a:Q2) (q:P3) (k:P3→Bool):Bool:=match a with | ([],[])=>k [] | (u::t,d)=>sPl3 (u::t,d) q k | ([],u::t)=>sPl3 ([],u::t) q k
def mPk3:P3→P3→(P3→Bool)→Bool
 | [],_,k=>k []
 | a::p,q,k=>sPk3 a q fun s=>mPk3 p q fun r=>match r with | []=>k s | b::t=>aPk3 s (([],[])::b::t) k
def nPk3:P3→(P3→Bool)→Bool
 | [],k=>k []
 | a::p,k=>nQk2 a fun c=>nPk3 p fun r=>k (c::r)
def cub3:P3:=[k2 7,([],[]),([],[]),k2 1]
def aQk3 (p q:Q3) (k:Q3→Bool):Bool:=match p,q with | (a,b),(c,d)=>aPk3 a c fun r=>aPk3 b d fun s=>k (r,s)
def nQk3 (p:Q3) (k:Q3→Bool):Bool:=match p with | (a,b)=>nPk3 a fun r=>nPk3 b fun s=>k (r,s)
def mQk3 (p q:Q3) (k:Q3→Bool):Bool:=
 match p,q with
 | (a,b),(c,d)=>mPk3 b d fun bd=>mPk3 bd cub3 fun e=>mPk3 a c fun ac=>aPk3 ac e fun r=>mPk3 a d fun ad=>mPk3 b c fun bc=>aPk3 ad bc fun s=>k (r,s)
def k3 (n:Nat):Q3:=([k2 n],[])
def qP3:P3→P3→Bool
 | [],[]=>true
 | a::p,b::q=>match qQ2 a b with | true=>qP3 p q | false=>false
 | _,_=>false
def qQ3 (p q:Q3):Bool:=match qP3 p.1 q.1 with | true=>qP3 p.2 q.2 | false=>false
section
variable [NeZero Pp] (v:Nat→Fin Pp)
def eP3:P3→Fin Pp
 | []=>0
 | a::p=>eQ2 v a+v 4*eP3 p
def eQ3 (p:Q3):Fin Pp:=eP3 v p.1+v 5*eP3 v p.2
theorem eQ3_zero:eQ3 v ([],[])=0:=by show (0:Fin Pp)+v 5*0=0;rw[m_z,Fin.add_zero]
theorem k3_ev(n:Nat):eQ3 v (k3 n)=cf n:=by show eQ2 v (k2 n)+v 4*0+v 5*0=cf n;rw[k2_ev];grind
theorem cub3_ev:eP3 v cub3=v 4*v 4*v 4+7:=by show eQ2 v (k2 7)+v 4*(eQ2 v ([],[])+v 4*(eQ2 v ([],[])+v 4*(eQ2 v (k2 1)+v 4*0)))=v 4*v 4*v 4+7;rw[k2_ev,k2_ev,eQ2_zero,cf_one,cf_seven];grind
theorem cn3_sp(c:Q2)(r:P3):∃ s,(∀ k,cn3 c r k=k s)∧eP3 v s=eQ2 v c+v 4*eP3 v r:=by
 cases r with
 | nil=>
  obtain ⟨c1,c2⟩:=c
  cases c1 with
  | nil=>cases c2 with
   | nil=>exact ⟨[],fun k=>rfl,by show (0:Fin Pp)=eQ2 v ([],[])+v 4*0;rw[eQ2_zero];simp[m_z]⟩
   | cons u t=>exact ⟨[([],u::t)],fun k=>rfl,rfl⟩
  | cons u t=>exact ⟨[(u::t,c2)],fun k=>rfl,rfl⟩
 | cons a q=>exact ⟨c::a::q,fun k=>rfl,rfl⟩
theorem aP3_sp:∀ p q:P3,∃ r,(∀ k,aPk3 p q k=k r)∧eP3 v r=eP3 v p+eP3 v q
 | [],q=>⟨q,fun k=>by rw[aPk3],by show eP3 v q=0+eP3 v q;grind⟩
 | a::p,[]=>⟨a::p,fun k=>by rw[aPk3],by show eP3 v (a::p)=eP3 v (a::p)+0;grind⟩
 | a::p,b::q=>by
  obtain ⟨c,hc,ec⟩:=aQ2_sp v a b
  obtain ⟨r,hr,er⟩:=aP3_sp p q
  obtain ⟨s,hs,es⟩:=cn3_sp v c r
  refine ⟨s,fun k=>by rw[aPk3,hc,hr,hs],?_⟩
  show eP3 v s=(eQ2 v a+v 4*eP3 v p)+(eQ2 v b+v 4*eP3 v q)
  rw[es,ec,er]
  grind
theorem sPl3_sp(h1:v 1*v 1=v 0*v 0*v 0+7)(h2:v 3*v 3=v 2*v 2*v 2+7)(a:Q2):∀ q:P3,∃ r,(∀ k,sPl3 a q k=k r)∧eP3 v r=eQ2 v a*eP3 v q
 | []=>⟨[],fun k=>by rw[sPl3],by show (0:Fin Pp)=_*0;rw[m_z]⟩
 | b::q=>by
  obtain ⟨c,hc,ec⟩:=mQ2_sp v h1 h2 a b
  obtain ⟨r,hr,er⟩:=sPl3_sp h1 h2 a q
  obtain ⟨s,hs,es⟩:=cn3_sp v c r
  refine ⟨s,fun k=>by rw[sPl3,hc,hr,hs],?_⟩
  show eP3 v s=eQ2 v a*(eQ2 v b+v 4*eP3 v q)
  rw[es,ec,er]
  grind
theorem sP3_sp(h1:v 1*v 1=v 0*v 0*v 0+7)(h2:v 3*v 3=v 2*v 2*v 2+7)(a:Q2)(q:P3):∃ r,(∀ k,sPk3 a q k=k r)∧eP3 v r=eQ2 v a*eP3 v q:=by
 obtain ⟨c1,c2⟩:=a
 cases c1 with
 | nil=>cases c2 with
  | nil=>exact ⟨[],fun k=>rfl,by show (0:Fin Pp)=eQ2 v ([],[])*_;rw[eQ2_zero];simp[z_m]⟩
  | cons u t=>exact sPl3_sp v h1 h2 ([],u::t) q
 | cons u t=>exact sPl3_sp v h1 h2 (u::t,c2) q
theorem mP3_sp(h1:v 1*v 1=v 0*v 0*v 0+7)(h2:v 3*v 3=v 2*v 2*v 2+7):∀ p q:P3,∃ r,(∀ k,mPk3 p q k=k r)∧eP3 v r=eP3 v p*eP3 v q
 | [],q=>⟨[],fun k=>by rw[mPk3],by show (0:Fin Pp)=0*eP3 v q;rw[z_m]⟩
 | a::p,q=>by
  obtain ⟨s,hs,es⟩:=sP3_sp v h1 h2 a q
  obtain ⟨r,hr,er⟩:=mP3_sp h1 h2 p q
  cases r with
  | nil=>
   refine ⟨s,fun k=>by rw[mPk3,hs,hr],?_⟩
   have er':(0:Fin Pp)=eP3 v p*eP3 v q:=er
   show eP3 v s=(eQ2 v a+v 4*eP3 v p)*eP3 v q
   rw[es]
   grind
  | cons b t=>
   obtain ⟨u,hu,eu⟩:=aP3_sp v s (([],[])::b::t)
   refine ⟨u,fun k=>by rw[mPk3,hs,hr];exact hu k,?_⟩
   show eP3 v u=(eQ2 v a+v 4*eP3 v p)*eP3 v q
   rw[eu,es,show eP3 v (([],[])::b::t)=eQ2 v ([],[])+v 4*eP3 v (b::t) from rfl,er,eQ2_zero]
   grind
theorem nP3_sp:∀ p:P3,∃ r,(∀ k,nPk3 p k=k r)∧eP3 v r = - eP3 v p
 | []=>⟨[],fun k=>by rw[nPk3],by show (0:Fin Pp) = - 0;rw[n_z]⟩
 | a::p=>by
  obtain ⟨c,hc,ec⟩:=nQ2_sp v a
  obtain ⟨r,hr,er⟩:=nP3_sp p
  refine ⟨c::r,fun k=>by rw[nPk3,hc,hr],?_⟩
  show eQ2 v c+v 4*eP3 v r = - (eQ2 v a+v 4*eP3 v p)
  rw[ec,er]
  grind
theorem aQ3_sp(p q:Q3):∃ r,(∀ k,aQk3 p q k=k r)∧eQ3 v r=eQ3 v p+eQ3 v q:=by
 obtain ⟨a,b⟩:=p
 obtain ⟨c,d⟩:=q
 obtain ⟨r,hr,er⟩:=aP3_sp v a c
 obtain ⟨s,hs,es⟩:=aP3_sp v b d
 refine ⟨(r,s),fun k=>by rw[aQk3];show aPk3 a c _=_;rw[hr,hs],?_⟩
 show eP3 v r+v 5*eP3 v s=(eP3 v a+v 5*eP3 v b)+(eP3 v c+v 5*eP3 v d)
 rw[er,es]
 grind
theorem nQ3_sp(p:Q3):∃ r,(∀ k,nQk3 p k=k r)∧eQ3 v r = - eQ3 v p:=by
 obtain ⟨a,b⟩:=p
 obtain ⟨r,hr,er⟩:=nP3_sp v a
 obtain ⟨s,hs,es⟩:=nP3_sp v b
 refine ⟨(r,s),fun k=>by rw[nQk3];show nPk3 a _=_;rw[hr,hs],?_⟩
 show eP3 v r+v 5*eP3 v s = - (eP3 v a+v 5*eP3 v b)
 rw[er,es]
 grind
theorem mQ3_sp(h1:v 1*v 1=v 0*v 0*v 0+7)(h2:v 3*v 3=v 2*v 2*v 2+7)(h3:v 5*v 5=v 4*v 4*v 4+7)(p q:Q3):∃ r,(∀ k,mQk3 p q k=k r)∧eQ3 v r=eQ3 v p*eQ3 v q:=by
 obtain ⟨a,b⟩:=p
 obtain ⟨c,d⟩:=q
 obtain ⟨bd,g1,e1⟩:=mP3_sp v h1 h2 b d
 obtain ⟨e,g2,e2⟩:=mP3_sp v h1 h2 bd cub3
 obtain ⟨ac,g3,e3⟩:=mP3_sp v h1 h2 a c
 obtain ⟨r,g4,e4⟩:=aP3_sp v ac e
 obtain ⟨ad,g5,e5⟩:=mP3_sp v h1 h2 a d
 obtain ⟨bc,g6,e6⟩:=mP3_sp v h1 h2 b c
 obtain ⟨s,g7,e7⟩:=aP3_sp v ad bc
 refine ⟨(r,s),fun k=>by rw[mQk3];show mPk3 b d _=_;rw[g1,g2,g3,g4,g5,g6,g7],?_⟩
 show eP3 v r+v 5*eP3 v s=(eP3 v a+v 5*eP3 v b)*(eP3 v c+v 5*eP3 v d)
 rw[e4,e3,e2,e1,cub3_ev,e7,e5,e6]
 generalize eP3 v a=ta
 generalize eP3 v b=tb
 generalize eP3 v c=tc
 generalize eP3 v d=td
 generalize v 4=tx at *
 generalize v 5=ty at *
 grind
theorem qP3_ev:∀ p q:P3,qP3 p q=true→eP3 v p=eP3 v q
 | [],[],_=>rfl
 | [],_::_,h=>by rw[qP3] at h;cases h;all_goals (intros;contradiction)
 | _::_,[],h=>by rw[qP3] at h;cases h;all_goals (intros;contradiction)
 | a::p,b::q,h=>by
  rw[qP3] at h
  split at h
  ·next e=>
   show eQ2 v a+v 4*eP3 v p=eQ2 v b+v 4*eP3 v q
   rw[qP3_ev p q h,qQ2_ev v a b e]
  ·cases h
theorem qQ3_ev(p q:Q3)(h:qQ3 p q=true):eQ3 v p=eQ3 v q:=by
 rw[qQ3] at h
 split at h
 ·next e=>unfold eQ3;rw[qP3_ev v _ _ e,qP3_ev v _ _ h]
 ·cases h
end
end
section
def N (n:Nat):Nat:=Nat.sub 115792089237316195423570985008687907853269984665640564039457584007908834671663 n
section
variable [NeZero Pp] (v:Nat→Fin Pp)
theorem t_mm(h1:v 1*v 1=v 0*v 0*v 0+7)(h2:v 3*v 3=v 2*v 2*v 2+7)(h3:v 5*v 5=v 4*v 4*v 4+7){a b R:Q3}(h:(mQk3 a b fun r=>qQ3 r R)=true):eQ3 v R=eQ3 v a*eQ3 v b:=by
 obtain ⟨r,hr,er⟩:=mQ3_sp v h1 h2 h3 a b
 rw[hr] at h;rw[← er,qQ3_ev v _ _ h]
theorem t_ms(h1:v 1*v 1=v 0*v 0*v 0+7)(h2:v 3*v 3=v 2*v 2*v 2+7)(h3:v 5*v 5=v 4*v 4*v 4+7){a b c d R:Q3}(h:(mQk3 a b fun u=>mQk3 c d fun t=>aQk3 u t fun r=>qQ3 r R)=true):eQ3 v R=eQ3 v a*eQ3 v b+eQ3 v c*eQ3 v d:=by
 obtain ⟨u,hu,eu⟩:=mQ3_sp v h1 h2 h3 a b
 obtain ⟨t,ht,et⟩:=mQ3_sp v h1 h2 h3 c d
 obtain ⟨r,hr,er⟩:=aQ3_sp v u t
 rw[hu,ht,hr] at h;rw[← qQ3_ev v _ _ h,er,eu,et]
theorem t_md(h1:v 1*v 1=v 0*v 0*v 0+7)(h2:v 3*v 3=v 2*v 2*v 2+7)(h3:v 5*v 5=v 4*v 4*v 4+7){a b c d R:Q3}(h:(mQk3 a b fun u=>mQk3 c d fun t=>nQk3 t fun n=>aQk3 u n fun r=>qQ3 r R)=true):eQ3 v R=eQ3 v a*eQ3 v b-eQ3 v c*eQ3 v d:=by
 obtain ⟨u,hu,eu⟩:=mQ3_sp v h1 h2 h3 a b
 obtain ⟨t,ht,et⟩:=mQ3_sp v h1 h2 h3 c d
 obtain ⟨n,hn,en⟩:=nQ3_sp v t
 obtain ⟨r,hr,er⟩:=aQ3_sp v u n
 rw[hu,ht,hn,hr] at h;rw[← qQ3_ev v _ _ h,er,eu,en,et];grind
theorem t_aa{a b R:Q3}(h:(aQk3 a b fun r=>qQ3 r R)=true):eQ3 v R=eQ3 v a+eQ3 v b:=by
 obtain ⟨r,hr,er⟩:=aQ3_sp v a b
 rw[hr] at h;rw[← er,qQ3_ev v _ _ h]
theorem t_ad{a b R:Q3}(h:(nQk3 b fun n=>aQk3 a n fun r=>qQ3 r R)=true):eQ3 v R=eQ3 v a-eQ3 v b:=by
 obtain ⟨n,hn,en⟩:=nQ3_sp v b
 obtain ⟨r,hr,er⟩:=aQ3_sp v a n
 rw[hn,hr] at h;rw[← qQ3_ev v _ _ h,er,en];grind
end
def pX1:Q3:=([([([0,1],[])],[])],[])
def pY1:Q3:=([([([],[1])],[])],[])
def pX2:Q3:=([([([],[]),([1],[])],[])],[])
def pY2:Q3:=([([],[([1],[])])],[])
def pX3:Q3:=([([],[]),([([1],[])],[])],[])
def pY3:Q3:=([],[([([1],[])],[])])
def pM2:Q3:=([([],[([N 1],[])])],[])
def pK1:Q3:=([([([1],[])],[])],[])
def pK3:Q3:=([([([3],[])],[])],[])
def pK21:Q3:=([([([21],[])],[])],[])
def pK7:Q3:=([([([7],[])],[])],[])
def pSxy:Q3:=([([([],[]),([],[1])],[([0,N 1],[])])],[])
def pSyz:Q3:=([([([],[1])],[([N 1],[])])],[])
def pSxw:Q3:=([([([0,1],[]),([1],[])],[])],[])
def pSxz:Q3:=([([([0,21],[]),([21],[])],[])],[])
def pSxv:Q3:=([([([],[]),([0,1],[])],[])],[])
def pSxx:Q3:=([([([],[]),([0,3],[])],[])],[])
def pSyy:Q3:=([([],[([],[N 1])])],[])
def pSzw:Q3:=([([([1],[])],[])],[])
def pSzz:Q3:=([([([21],[])],[])],[])
def pSm:Q3:=([([([21],[])],[([],[N 1])])],[])
def pSf:Q3:=([([([N 21],[])],[([],[N 1])])],[])
def pSx:Q3:=([([([],[0,N 14]),([],[N 42]),([],[]),([],[0,1])],[([0,42],[]),([14,0,0,N 1],[])])],[])
def pSy:Q3:=([([([N 392,0,0,7],[]),([0,0,63],[]),([0,63],[]),([7,0,0,1],[])],[])],[])
def pSz:Q3:=([([([],[28]),([],[]),([],[0,3]),([],[1])],[([N 28,0,0,N 1],[]),([0,0,N 3],[])])],[])
def pTxy:Q3:=([([],[]),([],[([1],[])])],[([([],[]),([1],[])],[])])
def pTyz:Q3:=([([],[([1],[])])],[([([1],[])],[])])
def pTxw:Q3:=([([([],[]),([1],[])],[]),([([1],[])],[])],[])
def pTxz:Q3:=([([([],[]),([21],[])],[]),([([21],[])],[])],[])
def pTxv:Q3:=([([],[]),([([],[]),([1],[])],[])],[])
def pTxx:Q3:=([([],[]),([([],[]),([3],[])],[])],[])
def pTyy:Q3:=([],[([],[([1],[])])])
def pTzw:Q3:=([([([1],[])],[])],[])
def pTzz:Q3:=([([([21],[])],[])],[])
def pTm:Q3:=([([([21],[])],[])],[([],[([1],[])])])
def pTf:Q3:=([([([N 21],[])],[])],[([],[([1],[])])])
def pTx:Q3:=([([],[([],[]),([N 14],[])]),([],[([N 42],[])]),([],[]),([],[([],[]),([1],[])])],[([([],[]),([N 42],[])],[]),([([N 14],[]),([],[]),([],[]),([1],[])],[])])
def pTy:Q3:=([([([N 392],[]),([],[]),([],[]),([7],[])],[]),([([],[]),([],[]),([63],[])],[]),([([],[]),([63],[])],[]),([([7],[]),([],[]),([],[]),([1],[])],[])],[])
def pTz:Q3:=([([],[([28],[])]),([],[]),([],[([],[]),([3],[])]),([],[([1],[])])],[([([28],[]),([],[]),([],[]),([1],[])],[]),([([],[]),([],[]),([3],[])],[])])
def pLxy:Q3:=([([],[]),([([],[1])],[])],[([([0,1],[])],[])])
def pLyz:Q3:=([([([],[1])],[])],[([([1],[])],[])])
def pLxw:Q3:=([([([0,1],[])],[]),([([1],[])],[])],[])
def pLxz:Q3:=([([([0,21],[])],[]),([([21],[])],[])],[])
def pLxv:Q3:=([([],[]),([([0,1],[])],[])],[])
def pLxx:Q3:=([([],[]),([([0,3],[])],[])],[])
def pLyy:Q3:=([],[([([],[1])],[])])
def pLzw:Q3:=([([([1],[])],[])],[])
def pLzz:Q3:=([([([21],[])],[])],[])
def pLm:Q3:=([([([21],[])],[])],[([([],[1])],[])])
def pLf:Q3:=([([([N 21],[])],[])],[([([],[1])],[])])
def pLx:Q3:=([([([],[0,N 14])],[]),([([],[N 42])],[]),([],[]),([([],[0,1])],[])],[([([0,N 42],[])],[]),([([N 14,0,0,1],[])],[])])
def pLy:Q3:=([([([N 392,0,0,7],[])],[]),([([0,0,63],[])],[]),([([0,63],[])],[]),([([7,0,0,1],[])],[])],[])
def pLz:Q3:=([([([],[28])],[]),([],[]),([([],[0,3])],[]),([([],[1])],[])],[([([28,0,0,1],[])],[]),([([0,0,3],[])],[])])
def pRxy:Q3:=([([([],[0,5488]),([],[16464]),([],[]),([],[0,N 490]),([],[N 294]),([],[]),([],[0,7])],[([0,N 16464],[]),([0,0,0,294],[]),([0,0,N 882],[]),([0,N 588],[]),([0,0,0,N 21],[])]),([([],[]),([],[]),([],[0,N 882]),([],[N 2646]),([],[]),([],[0,63])],[([16464,0,0,N 294],[]),([0,0,N 2646],[]),([],[]),([588,0,0,N 105],[])]),([([],[]),([],[0,N 882]),([],[N 2646]),([],[]),([],[0,63])],[([],[]),([0,2646],[]),([882,0,0,N 63],[])]),([([],[0,N 98]),([],[N 294]),([],[]),([],[0,N 7]),([],[N 42]),([],[]),([],[0,1])],[([0,294],[]),([N 294],[]),([0,0,63],[]),([0,105],[]),([21],[])])],[([([],[]),([16464,0,0,N 294],[]),([0,0,N 2646],[]),([0,N 2646],[]),([N 294,0,0,N 42],[])],[]),([([5488,0,0,N 98],[]),([0,0,N 882],[]),([0,N 882],[]),([N 490,0,0,N 7],[]),([0,0,63],[]),([0,63],[]),([7,0,0,1],[])],[])])
def pRyz:Q3:=([([([],[N 10976]),([],[]),([],[0,N 1176]),([],[N 196]),([],[]),([],[0,21]),([],[7])],[([0,0,0,588],[]),([0,0,2940],[]),([0,1764],[]),([0,0,0,21],[]),([0,0,N 21],[])]),([([],[]),([],[]),([],[1764]),([],[]),([],[0,189]),([],[63])],[([],[]),([],[]),([N 1764,0,0,N 63],[]),([0,0,N 189],[])]),([([],[]),([],[1764]),([],[]),([],[0,189]),([],[63])],[([],[]),([N 2940,0,0,N 42],[]),([],[]),([0,189],[]),([21,0,0,3],[])]),([([],[196]),([],[]),([],[0,21]),([],[35]),([],[]),([],[0,3]),([],[1])],[([N 588],[]),([0,0,42],[]),([0,63],[]),([N 21],[]),([0,0,N 3],[])])],[([([N 10976,0,0,196],[]),([0,0,1764],[]),([0,1764],[]),([N 196,0,0,35],[]),([0,0,63],[]),([0,63],[]),([7,0,0,1],[])],[]),([([],[]),([],[]),([N 1176,0,0,21],[]),([0,0,189],[]),([0,189],[]),([21,0,0,3],[])],[])])
def pRxw:Q3:=([([([0,8232],[]),([5488,0,0,N 98],[]),([0,0,294],[]),([0,1176],[]),([784,0,0,N 14],[]),([0,0,42],[])],[([],[0,N 392]),([],[N 1568]),([],[]),([],[0,N 14]),([],[N 14])]),([([8232,0,0,294],[]),([0,0,882],[]),([],[]),([1176,0,0,42],[]),([0,0,126],[])],[([],[N 1176]),([],[]),([],[0,N 126]),([],[N 42])]),([([],[]),([0,882],[]),([294,0,0,N 21],[]),([],[]),([0,126],[]),([42,0,0,N 3],[])],[([],[]),([],[0,N 42]),([],[N 126]),([],[]),([],[0,3])]),([([0,294],[]),([N 98,0,0,N 14],[]),([0,0,N 21],[]),([0,42],[]),([N 14,0,0,N 2],[]),([0,0,N 3],[])],[([],[0,N 14]),([],[N 14]),([],[]),([],[0,4]),([],[1])])],[([([],[0,N 392]),([],[N 2352]),([],[]),([],[0,N 112]),([],[N 84]),([],[]),([],[0,1])],[([0,1176],[]),([1568,0,0,14],[]),([0,0,126],[]),([0,42],[]),([14,0,0,N 1],[])]),([([],[N 392]),([],[]),([],[0,N 84]),([],[N 112]),([],[]),([],[0,6]),([],[1])],[([392,0,0,14],[]),([0,0,42],[]),([0,126],[]),([14,0,0,N 4],[]),([0,0,N 3],[])])])
def pRxz:Q3:=([([([0,172872],[]),([115248,0,0,N 2058],[]),([0,0,6174],[]),([0,24696],[]),([16464,0,0,N 294],[]),([0,0,882],[])],[([],[0,N 8232]),([],[N 32928]),([],[]),([],[0,N 294]),([],[N 294])]),([([172872,0,0,6174],[]),([0,0,18522],[]),([],[]),([24696,0,0,882],[]),([0,0,2646],[])],[([],[N 24696]),([],[]),([],[0,N 2646]),([],[N 882])]),([([],[]),([0,18522],[]),([6174,0,0,N 441],[]),([],[]),([0,2646],[]),([882,0,0,N 63],[])],[([],[]),([],[0,N 882]),([],[N 2646]),([],[]),([],[0,63])]),([([0,6174],[]),([N 2058,0,0,N 294],[]),([0,0,N 441],[]),([0,882],[]),([N 294,0,0,N 42],[]),([0,0,N 63],[])],[([],[0,N 294]),([],[N 294]),([],[]),([],[0,84]),([],[21])])],[([([],[0,N 8232]),([],[N 49392]),([],[]),([],[0,N 2352]),([],[N 1764]),([],[]),([],[0,21])],[([0,24696],[]),([32928,0,0,294],[]),([0,0,2646],[]),([0,882],[]),([294,0,0,N 21],[])]),([([],[N 8232]),([],[]),([],[0,N 1764]),([],[N 2352]),([],[]),([],[0,126]),([],[21])],[([8232,0,0,294],[]),([0,0,882],[]),([0,2646],[]),([294,0,0,N 84],[]),([0,0,N 63],[])])])
def pRxv:Q3:=([([([],[]),([0,N 4116],[]),([N 1372,0,0,98],[]),([],[]),([0,N 588],[]),([N 196,0,0,14],[])],[([],[]),([],[0,196]),([],[588]),([],[]),([],[0,N 14])]),([([0,N 12348],[]),([N 4116,0,0,294],[]),([],[]),([0,N 1764],[]),([N 588,0,0,42],[])],[([],[0,588]),([],[1764]),([],[]),([],[0,N 42])]),([],[]),([([],[]),([0,294],[]),([98,0,0,N 7],[]),([],[]),([0,42],[]),([14,0,0,N 1],[])],[([],[]),([],[0,N 14]),([],[N 42]),([],[]),([],[0,1])])],[([([],[]),([],[0,588]),([],[1764]),([],[]),([],[0,N 42])],[([],[]),([0,N 1764],[]),([N 588,0,0,42],[])]),([([],[0,196]),([],[588]),([],[]),([],[0,N 28]),([],[N 42]),([],[]),([],[0,1])],[([0,N 588],[]),([N 196,0,0,14],[]),([],[]),([0,42],[]),([14,0,0,N 1],[])])])
def pRxx:Q3:=([([([],[]),([0,N 12348],[]),([N 4116,0,0,294],[]),([],[]),([0,N 1764],[]),([N 588,0,0,42],[])],[([],[]),([],[0,588]),([],[1764]),([],[]),([],[0,N 42])]),([([0,N 37044],[]),([N 12348,0,0,882],[]),([],[]),([0,N 5292],[]),([N 1764,0,0,126],[])],[([],[0,1764]),([],[5292]),([],[]),([],[0,N 126])]),([],[]),([([],[]),([0,882],[]),([294,0,0,N 21],[]),([],[]),([0,126],[]),([42,0,0,N 3],[])],[([],[]),([],[0,N 42]),([],[N 126]),([],[]),([],[0,3])])],[([([],[]),([],[0,1764]),([],[5292]),([],[]),([],[0,N 126])],[([],[]),([0,N 5292],[]),([N 1764,0,0,126],[])]),([([],[0,588]),([],[1764]),([],[]),([],[0,N 84]),([],[N 126]),([],[]),([],[0,3])],[([0,N 1764],[]),([N 588,0,0,42],[]),([],[]),([0,126],[]),([42,0,0,N 3],[])])])
def pRyy:Q3:=([([([153664,0,0,N 2744],[]),([0,0,N 24696],[]),([0,N 24696],[]),([N 5488,0,0,N 343],[]),([0,0,441],[]),([0,441],[]),([49,0,0,7],[])],[]),([([],[]),([],[]),([N 24696,0,0,441],[]),([0,0,3969],[]),([0,3969],[]),([441,0,0,63],[])],[]),([([],[]),([N 24696,0,0,441],[]),([0,0,3969],[]),([0,3969],[]),([441,0,0,63],[])],[]),([([N 2744,0,0,49],[]),([0,0,441],[]),([0,441],[]),([N 343,0,0,14],[]),([0,0,63],[]),([0,63],[]),([7,0,0,1],[])],[])],[])
def pRzw:Q3:=([([([N 5488,0,0,N 196],[]),([0,0,N 588],[]),([],[]),([N 784,0,0,N 28],[]),([0,0,N 84],[])],[([],[784]),([],[]),([],[0,84]),([],[28])]),([],[]),([([],[]),([N 588,0,0,N 21],[]),([0,0,N 63],[]),([],[]),([N 84,0,0,N 3],[]),([0,0,N 9],[])],[([],[]),([],[84]),([],[]),([],[0,9]),([],[3])]),([([N 196,0,0,N 7],[]),([0,0,N 21],[]),([],[]),([N 28,0,0,N 1],[]),([0,0,N 3],[])],[([],[28]),([],[]),([],[0,3]),([],[1])])],[([([],[784]),([],[]),([],[0,84]),([],[56]),([],[]),([],[0,3]),([],[1])],[([N 784,0,0,N 28],[]),([0,0,N 84],[]),([],[]),([N 28,0,0,N 1],[]),([0,0,N 3],[])]),([([],[]),([],[]),([],[84]),([],[]),([],[0,9]),([],[3])],[([],[]),([],[]),([N 84,0,0,N 3],[]),([0,0,N 9],[])])])
def pRzz:Q3:=([([([N 115248,0,0,N 4116],[]),([0,0,N 12348],[]),([],[]),([N 16464,0,0,N 588],[]),([0,0,N 1764],[])],[([],[16464]),([],[]),([],[0,1764]),([],[588])]),([],[]),([([],[]),([N 12348,0,0,N 441],[]),([0,0,N 1323],[]),([],[]),([N 1764,0,0,N 63],[]),([0,0,N 189],[])],[([],[]),([],[1764]),([],[]),([],[0,189]),([],[63])]),([([N 4116,0,0,N 147],[]),([0,0,N 441],[]),([],[]),([N 588,0,0,N 21],[]),([0,0,N 63],[])],[([],[588]),([],[]),([],[0,63]),([],[21])])],[([([],[16464]),([],[]),([],[0,1764]),([],[1176]),([],[]),([],[0,63]),([],[21])],[([N 16464,0,0,N 588],[]),([0,0,N 1764],[]),([],[]),([N 588,0,0,N 21],[]),([0,0,N 63],[])]),([([],[]),([],[]),([],[1764]),([],[]),([],[0,189]),([],[63])],[([],[]),([],[]),([N 1764,0,0,N 63],[]),([0,0,N 189],[])])])
def pRm:Q3:=([([([38416,0,0,N 6860],[]),([0,0,N 37044],[]),([0,N 24696],[]),([N 21952,0,0,N 931],[]),([0,0,N 1323],[]),([0,441],[]),([49,0,0,7],[])],[([],[16464]),([],[]),([],[0,1764]),([],[588])]),([([],[]),([],[]),([N 24696,0,0,441],[]),([0,0,3969],[]),([0,3969],[]),([441,0,0,63],[])],[]),([([],[]),([N 37044],[]),([0,0,2646],[]),([0,3969],[]),([N 1323],[]),([0,0,N 189],[])],[([],[]),([],[1764]),([],[]),([],[0,189]),([],[63])]),([([N 6860,0,0,N 98],[]),([],[]),([0,441],[]),([N 931,0,0,N 7],[]),([],[]),([0,63],[]),([7,0,0,1],[])],[([],[588]),([],[]),([],[0,63]),([],[21])])],[([([],[16464]),([],[]),([],[0,1764]),([],[1176]),([],[]),([],[0,63]),([],[21])],[([N 16464,0,0,N 588],[]),([0,0,N 1764],[]),([],[]),([N 588,0,0,N 21],[]),([0,0,N 63],[])]),([([],[]),([],[]),([],[1764]),([],[]),([],[0,189]),([],[63])],[([],[]),([],[]),([N 1764,0,0,N 63],[]),([0,0,N 189],[])])])
def pRf:Q3:=([([([268912,0,0,1372],[]),([0,0,N 12348],[]),([0,N 24696],[]),([10976,0,0,245],[]),([0,0,2205],[]),([0,441],[]),([49,0,0,7],[])],[([],[N 16464]),([],[]),([],[0,N 1764]),([],[N 588])]),([([],[]),([],[]),([N 24696,0,0,441],[]),([0,0,3969],[]),([0,3969],[]),([441,0,0,63],[])],[]),([([],[]),([N 12348,0,0,882],[]),([0,0,5292],[]),([0,3969],[]),([2205,0,0,126],[]),([0,0,189],[])],[([],[]),([],[N 1764]),([],[]),([],[0,N 189]),([],[N 63])]),([([1372,0,0,196],[]),([0,0,882],[]),([0,441],[]),([245,0,0,35],[]),([0,0,126],[]),([0,63],[]),([7,0,0,1],[])],[([],[N 588]),([],[]),([],[0,N 63]),([],[N 21])])],[([([],[N 16464]),([],[]),([],[0,N 1764]),([],[N 1176]),([],[]),([],[0,N 63]),([],[N 21])],[([16464,0,0,588],[]),([0,0,1764],[]),([],[]),([588,0,0,21],[]),([0,0,63],[])]),([([],[]),([],[]),([],[N 1764]),([],[]),([],[0,N 189]),([],[N 63])],[([],[]),([],[]),([1764,0,0,63],[]),([0,0,189],[])])])
def pRx:Q3:=([([([],[0,4638194176,0,0,52706752]),([],[0,0,0,406594944]),([],[0,0,2032974720]),([],[0,1295080192,0,0,10756480]),([],[0,0,0,174254976]),([],[0,0,392073696]),([],[0,175868448,0,0,1008420]),([],[0,0,0,6223392]),([],[0,0,3889620]),([],[0,1709512,0,0,77518]),([],[0,0,0,18522]),([],[0,0,N 18522]),([],[0,N 686,0,0,N 98])],[([0,N 3794886144,0,0,N 338829120],[]),([0,0,0,N 1219784832],[]),([0,0,N 1219784832,0,0,N 43563744],[]),([0,N 1626379776,0,0,N 188776224],[]),([0,0,0,N 217818720],[]),([0,0,N 130691232],[]),([0,N 58084992,0,0,N 5964084],[]),([0,0,0,N 6223392],[]),([0,0,N 777924,0,0,N 111132],[]),([0,N 172872,0,0,12348],[])]),([([],[N 1264962048,0,0,225886080]),([],[0,0,1219784832]),([],[0,N 542126592,0,0,24202080]),([],[N 2620278528,0,0,235566912]),([],[0,0,435637440]),([],[0,203297472,0,0,5704776]),([],[N 140372064,0,0,17287200]),([],[0,0,N 6223392]),([],[0,N 2074464,0,0,314874]),([],[N 1786344,0,0,N 181104]),([],[0,0,N 222264]),([],[0,N 24696,0,0,N 882]),([],[N 2058,0,0,N 294])],[([3794886144,0,0,N 406594944,0,0,N 4840416],[]),([0,0,N 1490848128,0,0,N 38723328],[]),([0,0,0,0,N 87127488],[]),([1626379776,0,0,N 58084992,0,0,N 1037232],[]),([0,0,N 188776224,0,0,N 5186160],[]),([0,0,0,0,N 10890936],[]),([58084992,0,0,N 13484016,0,0,N 55566],[]),([0,0,0,0,0,N 444528],[]),([0,0,0,0,222264],[]),([172872,0,0,74088,0,0,N 882],[]),([0,0,6174,0,0,882],[])]),([([],[]),([],[0,N 677658240,0,0,4840416]),([],[N 2575101312,0,0,53244576]),([],[0,0,174254976]),([],[0,101648736,0,0,N 1815156]),([],[N 188776224,0,0,N 11409552]),([],[0,0,N 20226024]),([],[0,N 13484016,0,0,N 314874]),([],[N 5964084,0,0,N 1185408]),([],[0,0,N 444528]),([],[0,24696,0,0,6174]),([],[N 6174,0,0,4410])],[([],[]),([0,1490848128,0,0,N 4840416],[]),([1219784832,0,0,N 72606240,0,0,518616],[]),([0,0,0,0,0,3111696],[]),([0,188776224,0,0,N 259308],[]),([130691232,0,0,N 17632944,0,0,37044],[]),([0,0,0,0,0,388962],[]),([0,0,0,0,555660],[]),([777924,0,0,N 37044,0,0,N 5292],[]),([0,0,0,0,0,N 7938],[]),([0,N 6174,0,0,N 882],[])]),([([],[0,N 75295360,0,0,3764768]),([],[N 2032974720,0,0,29042496]),([],[0,0,188776224]),([],[0,5378240,0,0,N 2343376]),([],[N 217818720,0,0,N 3111696]),([],[0,0,N 15558480]),([],[0,N 34113408,0,0,16464]),([],[N 21781872]),([],[0,0,N 833490]),([],[0,48020,0,0,61103]),([],[N 92610,0,0,41013]),([],[0,0,N 1323]),([],[0,N 49,0,0,N 7])],[([0,406594944,0,0,N 14521248],[]),([1219784832],[]),([0,0,72606240,0,0,N 5186160],[]),([0,58084992,0,0,N 13484016],[]),([217818720,0,0,0,0,0,N 166698],[]),([0,0,17632944,0,0,N 259308],[]),([0,13484016,0,0,314874],[]),([6223392,0,0,0,0,0,N 23814],[]),([0,0,37044,0,0,N 74088],[]),([0,N 74088,0,0,N 7938],[])]),([([],[N 384006336,0,0,3226944]),([],[0,0,43563744]),([],[0,N 106489152,0,0,N 691488]),([],[N 200070528,0,0,2535456]),([],[0,0,N 777924]),([],[0,N 16077096,0,0,370440]),([],[N 20831076,0,0,1358280]),([],[0,0,N 388962]),([],[0,592704,0,0,64827]),([],[N 14406,0,0,44247]),([],[0,0,N 19845]),([],[0,N 4851,0,0,N 315]),([],[N 294,0,0,N 42])],[([338829120,0,0,14521248,0,0,N 172872],[]),([0,0,4840416,0,0,N 2420208],[]),([0,87127488],[]),([188776224,0,0,13484016,0,0,N 148176],[]),([0,0,259308,0,0,N 351918],[]),([0,10890936],[]),([5964084,0,0,N 314874,0,0,N 15876],[]),([0,0,N 555660,0,0,N 71442],[]),([0,N 222264],[]),([N 12348,0,0,7938,0,0,252],[]),([0,0,882,0,0,126],[])]),([([],[]),([],[0,N 38723328,0,0,N 345744]),([],[N 33882912,0,0,N 691488]),([],[0,0,N 3111696]),([],[0,N 7260624,0,0,129654]),([],[N 5186160,0,0,481572]),([],[0,0,N 388962]),([],[0,296352,0,0,22491]),([],[N 74088,0,0,N 22491]),([],[0,0,N 99225]),([],[0,N 29547,0,0,N 441]),([],[N 3528,0,0,252])],[([],[]),([0,38723328,0,0,2420208],[]),([43563744,0,0,5186160,0,0,N 37044],[]),([0,0,N 3111696],[]),([0,5186160,0,0,351918],[]),([0,0,0,259308,0,0,N 2646],[]),([0,0,N 388962],[]),([0,444528,0,0,71442],[]),([111132,0,0,74088,0,0,378],[]),([0,0,7938],[]),([0,N 882,0,0,N 126],[])]),([([],[0,N 3764768,0,0,N 19208]),([],[]),([],[0,0,N 518616]),([],[0,N 768320,0,0,1372]),([],[0,0,0,N 55566]),([],[0,0,N 222264]),([],[0,N 72030,0,0,1617]),([],[0,0,0,N 3969]),([],[0,0,N 19845]),([],[0,N 5537,0,0,154]),([],[0,0,0,567]),([],[0,0,189]),([],[0,7,0,0,1])],[([0,4840416,0,0,172872],[]),([],[]),([0,0,N 518616,0,0,37044],[]),([0,1037232,0,0,148176],[]),([0,0,0,166698],[]),([0,0,N 37044,0,0,2646],[]),([0,55566,0,0,15876],[]),([0,0,0,23814],[]),([0,0,5292,0,0,N 378],[]),([0,882,0,0,N 252],[])])],[([([0,N 1264962048,0,0,N 384006336],[]),([0,0,0,N 2032974720],[]),([0,0,N 2575101312,0,0,N 33882912],[]),([0,N 2620278528,0,0,N 200070528],[]),([0,0,0,N 217818720],[]),([0,0,N 188776224,0,0,N 5186160],[]),([0,N 140372064,0,0,N 20831076],[]),([0,0,0,N 21781872],[]),([0,0,N 5964084,0,0,N 74088],[]),([0,N 1786344,0,0,N 14406],[]),([0,0,0,N 92610],[]),([0,0,N 6174,0,0,N 3528],[]),([0,N 2058,0,0,N 294],[])],[([],[0,542126592,0,0,9680832]),([],[0,0,0,96808320]),([],[0,0,406594944]),([],[0,232339968,0,0,2074464]),([],[0,0,0,20744640]),([],[0,0,22819104]),([],[0,8297856,0,0,111132]),([],[]),([],[0,0,N 37044]),([],[0,24696,0,0,1764]),([],[0,0,0,1764])]),([([4638194176,0,0,N 75295360,0,0,N 3764768],[]),([0,0,N 677658240,0,0,N 38723328],[]),([0,N 542126592,0,0,N 106489152],[]),([1295080192,0,0,5378240,0,0,N 768320],[]),([0,0,101648736,0,0,N 7260624],[]),([0,203297472,0,0,N 16077096],[]),([175868448,0,0,N 34113408,0,0,N 72030],[]),([0,0,N 13484016,0,0,296352],[]),([0,N 2074464,0,0,592704],[]),([1709512,0,0,48020,0,0,N 5537],[]),([0,0,24696,0,0,N 29547],[]),([0,N 24696,0,0,N 4851],[]),([N 686,0,0,N 49,0,0,7],[])],[([],[N 542126592,0,0,19361664]),([],[0,0,135531648]),([],[0,0,0,0,2074464]),([],[N 232339968,0,0,16595712]),([],[0,0,16595712]),([],[0,0,0,0,N 74088]),([],[N 8297856,0,0,N 889056]),([],[0,0,N 889056]),([],[0,0,0,0,18522]),([],[N 24696,0,0,19404]),([],[0,0,882])]),([([],[]),([0,1219784832,0,0,43563744],[]),([2032974720,0,0,188776224,0,0,N 518616],[]),([0,0,174254976,0,0,N 3111696],[]),([0,435637440,0,0,N 777924],[]),([392073696,0,0,N 15558480,0,0,N 222264],[]),([0,0,N 20226024,0,0,N 388962],[]),([0,N 6223392,0,0,N 388962],[]),([3889620,0,0,N 833490,0,0,N 19845],[]),([0,0,N 444528,0,0,N 99225],[]),([0,N 222264,0,0,N 19845],[]),([N 18522,0,0,N 1323,0,0,189],[])],[([],[]),([],[0,N 135531648,0,0,N 691488]),([],[N 406594944,0,0,N 2074464]),([],[]),([],[0,N 16595712,0,0,N 37044]),([],[N 22819104,0,0,740880]),([],[]),([],[0,889056,0,0,79380]),([],[37044,0,0,76734]),([],[]),([],[0,N 882,0,0,N 126])]),([([0,225886080,0,0,3226944],[]),([406594944,0,0,29042496],[]),([0,0,53244576,0,0,N 691488],[]),([0,235566912,0,0,2535456],[]),([174254976,0,0,N 3111696,0,0,N 55566],[]),([0,0,N 11409552,0,0,481572],[]),([0,17287200,0,0,1358280],[]),([6223392,0,0,0,0,0,N 3969],[]),([0,0,N 1185408,0,0,N 22491],[]),([0,N 181104,0,0,44247],[]),([18522,0,0,41013,0,0,567],[]),([0,0,4410,0,0,252],[]),([0,N 294,0,0,N 42],[])],[([],[0,N 19361664]),([],[N 96808320]),([],[0,0,2074464]),([],[0,N 16595712,0,0,N 148176]),([],[N 20744640]),([],[0,0,N 740880]),([],[0,889056,0,0,44982]),([],[]),([],[0,0,N 76734]),([],[0,N 19404,0,0,N 756]),([],[N 1764])]),([([52706752,0,0,3764768,0,0,N 19208],[]),([0,0,4840416,0,0,N 345744],[]),([0,24202080,0,0,N 691488],[]),([10756480,0,0,N 2343376,0,0,1372],[]),([0,0,N 1815156,0,0,129654],[]),([0,5704776,0,0,370440],[]),([1008420,0,0,16464,0,0,1617],[]),([0,0,N 314874,0,0,22491],[]),([0,314874,0,0,64827],[]),([77518,0,0,61103,0,0,154],[]),([0,0,6174,0,0,N 441],[]),([0,N 882,0,0,N 315],[]),([N 98,0,0,N 7,0,0,1],[])],[([],[N 9680832]),([],[0,0,691488]),([],[0,N 2074464]),([],[N 2074464,0,0,148176]),([],[0,0,37044]),([],[0,74088]),([],[N 111132,0,0,N 44982]),([],[0,0,N 79380]),([],[0,N 18522]),([],[N 1764,0,0,756]),([],[0,0,126])])])
def pRy:Q3:=([([([N 29515781120,0,0,N 6535637248,0,0,N 26353376],[]),([0,0,N 22769316864,0,0,N 203297472],[]),([0,N 34153975296,0,0,N 1372257936],[]),([N 32045705216,0,0,N 2785928320,0,0,N 5378240],[]),([0,0,N 2896988976,0,0,N 87127488],[]),([0,N 3354408288,0,0,N 250491528],[]),([N 2089446240,0,0,N 310189992,0,0,N 504210],[]),([0,0,N 250491528,0,0,N 3111696],[]),([0,N 76236552,0,0,N 2722734],[]),([N 24739904,0,0,N 1277332,0,0,N 38759],[]),([0,0,N 1037232,0,0,N 9261],[]),([0,0,0,0,N 27783],[]),([N 19208,0,0,N 2401,0,0,49],[])],[([],[7589772288,0,0,271063296]),([],[0,0,1626379776]),([],[0,4879139328,0,0,21781872]),([],[3252759552,0,0,116169984]),([],[0,0,326728080]),([],[0,304946208]),([],[116169984,0,0,4148928]),([],[0,0,3111696]),([],[0,0,0,0,55566]),([],[345744,0,0,12348]),([],[0,0,18522])]),([([0,0,N 9487215360,0,0,N 135531648],[]),([0,N 22769316864,0,0,N 1118136096],[]),([N 34153975296,0,0,N 3456057024,0,0,N 3630312],[]),([0,0,N 1558613952,0,0,N 91967904],[]),([0,N 3049462080,0,0,N 500983056],[]),([N 3354408288,0,0,N 849493008,0,0,N 1555848],[]),([0,0,N 660716784,0,0,N 5704776],[]),([0,N 261382464,0,0,2333772],[]),([N 76236552,0,0,1555848,0,0,N 138915],[]),([0,0,N 950796,0,0,N 80262],[]),([0,518616,0,0,N 203742],[]),([0,0,0,N 18522,0,0,1323],[]),([0,0,3087,0,0,441],[])],[([],[0,0,813189888]),([],[0,4337012736,0,0,N 4840416]),([],[3252759552,0,0,29042496]),([],[0,0,435637440]),([],[0,667977408,0,0,N 2593080]),([],[275903712,0,0,N 1037232]),([],[0,0,4667544]),([],[0,0,0,0,222264]),([],[1037232,0,0,259308]),([],[0,0,148176]),([],[0,12348,0,0,N 882])]),([([0,N 9487215360,0,0,N 592950960],[]),([N 22769316864,0,0,N 2032974720],[]),([0,0,813189888,0,0,N 90757800],[]),([0,N 1558613952,0,0,N 582060024],[]),([N 2896988976,0,0,N 947511432,0,0,N 388962],[]),([0,0,N 871274880,0,0,N 10113012],[]),([0,N 660716784,0,0,N 23208066],[]),([N 250491528,0,0,5445468,0,0,N 27783],[]),([0,0,N 4667544,0,0,N 333396],[]),([0,N 950796,0,0,N 663705],[]),([N 1037232,0,0,N 64827,0,0,3969],[]),([0,0,N 18522,0,0,1323],[]),([0,3087,0,0,441],[])],[([],[0,1355316480,0,0,12101040]),([],[2168506368,0,0,77446656]),([],[0,0,348509952]),([],[0,435637440]),([],[399334320,0,0,15039864]),([],[0,0,43563744]),([],[0,27486648,0,0,259308]),([],[9335088,0,0,1555848]),([],[0,0,611226]),([],[0,N 12348,0,0,882]),([],[6174,0,0,N 1764])]),([([N 6535637248,0,0,N 579774272,0,0,N 3899224],[]),([0,0,N 2032974720,0,0,N 50824368],[]),([0,N 3456057024,0,0,N 286794648],[]),([N 2785928320,0,0,N 583001216,0,0,N 758716],[]),([0,0,N 947511432,0,0,N 4667544],[]),([0,N 849493008,0,0,16336404],[]),([N 310189992,0,0,22358112,0,0,N 60711],[]),([0,0,5445468,0,0,944622],[]),([0,1555848,0,0,2139291],[]),([N 1277332,0,0,647584,0,0,N 4459],[]),([0,0,N 64827,0,0,N 25137],[]),([0,N 18522,0,0,N 6615],[]),([N 2401,0,0,N 245,0,0,14],[])],[([],[813189888,0,0,29042496]),([],[0,0,232339968]),([],[0,726062400,0,0,1037232]),([],[406594944,0,0,8297856]),([],[0,0,37340352]),([],[0,45638208,0,0,N 148176]),([],[13484016,0,0,N 296352]),([],[0,0,N 889056]),([],[0,N 296352,0,0,29106]),([],[0,0,0,15876]),([],[0,0,2646])]),([([0,0,N 592950960,0,0,N 8470728],[]),([0,N 1118136096,0,0,N 50824368],[]),([N 1372257936,0,0,N 286794648,0,0,N 518616],[]),([0,0,N 582060024,0,0,N 1469412],[]),([0,N 500983056,0,0,3111696],[]),([N 250491528,0,0,16336404,0,0,N 222264],[]),([0,0,N 23208066,0,0,N 398223],[]),([0,2333772,0,0,1500282],[]),([N 2722734,0,0,2139291,0,0,N 19845],[]),([0,0,N 663705,0,0,N 158319],[]),([0,N 203742,0,0,N 104517],[]),([N 27783,0,0,N 6615,0,0,189],[]),([0,0,441,0,0,63],[])],[([],[0,0,50824368]),([],[0,227499552,0,0,N 691488]),([],[268643088,0,0,4148928]),([],[0,0,34228656]),([],[0,39414816,0,0,129654]),([],[11409552,0,0,852012]),([],[0,0,N 1833678]),([],[0,0,0,0,103194]),([],[148176,0,0,179928]),([],[0,0,44982]),([],[0,1764,0,0,N 126])]),([([0,N 135531648,0,0,N 8470728],[]),([N 203297472,0,0,N 50824368],[]),([0,0,N 90757800,0,0,N 518616],[]),([0,N 91967904,0,0,N 1469412],[]),([N 87127488,0,0,N 4667544,0,0,N 55566],[]),([0,0,N 10113012,0,0,N 111132],[]),([0,N 5704776,0,0,N 398223],[]),([N 3111696,0,0,944622,0,0,N 3969],[]),([0,0,N 333396,0,0,N 107163],[]),([0,N 80262,0,0,N 158319],[]),([N 9261,0,0,N 25137,0,0,567],[]),([0,0,1323,0,0,756],[]),([0,441,0,0,63],[])],[([],[0,19361664,0,0,172872]),([],[48404160,0,0,1728720]),([],[0,0,7779240]),([],[0,6223392]),([],[10372320,0,0,481572]),([],[0,0,222264]),([],[0,N 407484,0,0,60858]),([],[0,0,0,174636]),([],[0,0,87318]),([],[0,14112,0,0,N 1008]),([],[882,0,0,N 252])]),([([N 26353376,0,0,N 3899224,0,0,N 19208],[]),([],[]),([0,N 3630312,0,0,N 518616],[]),([N 5378240,0,0,N 758716,0,0,1372],[]),([0,0,N 388962,0,0,N 55566],[]),([0,N 1555848,0,0,N 222264],[]),([N 504210,0,0,N 60711,0,0,1617],[]),([0,0,N 27783,0,0,N 3969],[]),([0,N 138915,0,0,N 19845],[]),([N 38759,0,0,N 4459,0,0,154],[]),([0,0,3969,0,0,567],[]),([0,1323,0,0,189],[]),([49,0,0,14,0,0,1],[])],[([],[4840416,0,0,172872]),([],[]),([],[0,N 518616,0,0,37044]),([],[1037232,0,0,148176]),([],[0,0,166698]),([],[0,N 37044,0,0,2646]),([],[55566,0,0,15876]),([],[0,0,23814]),([],[0,5292,0,0,N 378]),([],[882,0,0,N 252])])],[([([],[7589772288,0,0,271063296]),([],[0,0,1626379776]),([],[0,4337012736,0,0,16941456]),([],[3252759552,0,0,116169984]),([],[0,0,370291824]),([],[0,682498656,0,0,2593080]),([],[333988704,0,0,11928168]),([],[0,0,20226024]),([],[0,8816472,0,0,37044]),([],[3457440,0,0,123480]),([],[0,0,74088]),([],[0,N 24696,0,0,1764])],[([N 7589772288,0,0,N 813189888,0,0,N 4840416],[]),([0,0,N 2168506368,0,0,N 48404160],[]),([0,N 3252759552,0,0,N 268643088],[]),([N 3252759552,0,0,N 406594944,0,0,N 1037232],[]),([0,0,N 399334320,0,0,N 10372320],[]),([0,N 275903712,0,0,N 11409552],[]),([N 116169984,0,0,N 13484016,0,0,N 55566],[]),([0,0,N 9335088],[]),([0,N 1037232,0,0,N 148176],[]),([N 345744,0,0,0,0,0,N 882],[]),([0,0,N 6174,0,0,N 882],[])]),([([],[0,0,813189888]),([],[0,5421265920,0,0,4840416]),([],[4337012736,0,0,67765824]),([],[0,0,609892416]),([],[0,1016487360,0,0,N 2593080]),([],[682498656,0,0,10372320]),([],[0,0,68457312]),([],[0,33191424,0,0,N 370440]),([],[8816472,0,0,148176]),([],[0,0,N 296352]),([],[0,N 197568,0,0,14112]),([],[N 24696,0,0,7056])],[([0,0,N 1355316480,0,0,N 19361664],[]),([0,N 4337012736,0,0,N 227499552],[]),([N 4879139328,0,0,N 726062400,0,0,518616],[]),([0,0,N 435637440,0,0,N 6223392],[]),([0,N 667977408,0,0,N 39414816],[]),([N 304946208,0,0,N 45638208,0,0,37044],[]),([0,0,N 27486648,0,0,407484],[]),([],[]),([0,0,0,296352,0,0,N 5292],[]),([0,0,12348,0,0,N 14112],[]),([0,N 12348,0,0,N 1764],[])]),([([],[0,813189888,0,0,7260624]),([],[1626379776,0,0,58084992]),([],[0,0,348509952]),([],[0,609892416,0,0,N 1555848]),([],[370291824,0,0,6223392]),([],[0,0,37340352]),([],[0,68457312,0,0,111132]),([],[20226024,0,0,222264]),([],[0,0,N 1666980]),([],[0,N 296352,0,0,68796]),([],[74088,0,0,74088]),([],[0,0,15876])],[([0,N 813189888,0,0,N 50824368],[]),([N 1626379776,0,0,N 232339968],[]),([0,0,N 348509952,0,0,N 7779240],[]),([0,N 435637440,0,0,N 34228656],[]),([N 326728080,0,0,N 37340352,0,0,N 166698],[]),([0,0,N 43563744,0,0,N 222264],[]),([0,N 4667544,0,0,1833678],[]),([N 3111696,0,0,889056,0,0,N 23814],[]),([0,0,N 611226,0,0,N 87318],[]),([0,N 148176,0,0,N 44982],[]),([N 18522,0,0,N 2646],[])]),([([],[271063296,0,0,9680832]),([],[0,0,58084992]),([],[0,67765824,0,0,N 172872]),([],[116169984,0,0,4148928]),([],[0,0,6223392]),([],[0,10372320,0,0,592704]),([],[11928168,0,0,1926288]),([],[0,0,222264]),([],[0,148176,0,0,84672]),([],[123480,0,0,218736]),([],[0,0,74088]),([],[0,7056,0,0,N 504])],[([N 271063296,0,0,N 29042496,0,0,N 172872],[]),([0,0,N 77446656,0,0,N 1728720],[]),([0,N 29042496,0,0,N 4148928],[]),([N 116169984,0,0,N 8297856,0,0,N 148176],[]),([0,0,N 15039864,0,0,N 481572],[]),([0,1037232,0,0,N 852012],[]),([N 4148928,0,0,296352,0,0,N 15876],[]),([0,0,N 1555848,0,0,N 174636],[]),([0,N 259308,0,0,N 179928],[]),([N 12348,0,0,N 15876,0,0,252],[]),([0,0,1764,0,0,252],[])]),([([],[0,0,7260624]),([],[0,4840416,0,0,N 345744]),([],[16941456,0,0,N 172872]),([],[0,0,N 1555848]),([],[0,N 2593080,0,0,185220]),([],[2593080,0,0,592704]),([],[0,0,111132]),([],[0,N 370440,0,0,26460]),([],[37044,0,0,84672]),([],[0,0,68796]),([],[0,14112,0,0,N 1008]),([],[1764,0,0,N 504])],[([0,0,N 12101040,0,0,N 172872],[]),([0,4840416,0,0,691488],[]),([N 21781872,0,0,N 1037232,0,0,N 37044],[]),([],[]),([0,2593080,0,0,N 129654],[]),([0,0,0,148176,0,0,N 2646],[]),([0,0,N 259308,0,0,N 60858],[]),([0,N 222264,0,0,N 103194],[]),([N 55566,0,0,N 29106,0,0,378],[]),([0,0,N 882,0,0,1008],[]),([0,882,0,0,126],[])])])
def pRz:Q3:=([([([],[N 1686616064,0,0,165649792]),([],[0,0,813189888]),([],[0,271063296,0,0,16941456]),([],[662599168,0,0,94657024]),([],[0,0,21781872]),([],[0,N 101648736,0,0,2593080]),([],[N 17748192,0,0,9911328]),([],[0,0,7779240]),([],[0,1037232,0,0,37044]),([],[38416,0,0,N 31556]),([],[0,0,37044]),([],[0,12348,0,0,1764]),([],[1372,0,0,196])],[([0,0,0,N 135531648,0,0,N 4840416],[]),([0,0,271063296,0,0,N 48404160],[]),([0,N 813189888,0,0,N 181515600],[]),([0,0,0,N 29042496,0,0,N 1037232],[]),([0,0,36303120,0,0,N 10372320],[]),([0,N 14521248,0,0,N 11409552],[]),([0,0,0,N 1555848,0,0,N 55566],[]),([0,0,3111696],[]),([0,518616,0,0,74088],[]),([0,0,0,N 24696,0,0,N 882],[]),([0,0,N 6174,0,0,N 882],[])]),([([],[0,0,N 406594944]),([],[0,N 1084253184,0,0,4840416]),([],[271063296,0,0,N 48404160]),([],[0,0,N 261382464]),([],[0,N 290424960,0,0,N 2593080]),([],[N 101648736,0,0,N 11409552]),([],[0,0,N 7779240]),([],[0,2074464,0,0,N 370440]),([],[1037232,0,0,N 629748]),([],[0,0,37044]),([],[0,61740,0,0,14112]),([],[12348,0,0,1764])],[([0,0,677658240,0,0,9680832],[]),([0,0,0,0,43563744],[]),([813189888,0,0,261382464,0,0,518616],[]),([0,0,174254976],[]),([0,0,0,0,12446784],[]),([14521248,0,0,21781872,0,0,37044],[]),([0,0,17632944,0,0,740880],[]),([0,0,0,0,889056],[]),([N 518616,0,0,N 222264,0,0,N 5292],[]),([0,0,N 61740,0,0,N 8820],[])]),([([],[0,225886080,0,0,N 4033680]),([],[813189888,0,0,N 58084992]),([],[0,0,N 116169984]),([],[0,158120256,0,0,N 3860808]),([],[21781872,0,0,N 17114328]),([],[]),([],[0,26103672,0,0,N 104958]),([],[7779240,0,0,1000188]),([],[0,0,1611414]),([],[0,411600,0,0,52185]),([],[37044,0,0,1323]),([],[0,0,N 1323]),([],[0,147,0,0,21])],[([0,N 677658240,0,0,12101040],[]),([N 271063296,0,0,135531648],[]),([0,0,0,0,0,N 1555848],[]),([0,N 174254976,0,0,6223392],[]),([N 36303120,0,0,11928168,0,0,N 166698],[]),([0,0,0,0,0,N 444528],[]),([0,N 17632944,0,0,N 296352],[]),([N 3111696,0,0,N 1555848,0,0,N 23814],[]),([0,0,0,0,0,N 31752],[]),([0,61740,0,0,8820],[]),([6174,0,0,882],[])]),([([],[N 165649792,0,0,5378240]),([],[0,0,116169984]),([],[0,300105792,0,0,N 1728720]),([],[2151296,0,0,N 5916064]),([],[0,0,6223392]),([],[0,22819104,0,0,N 74088]),([],[N 2650704,0,0,732648]),([],[0,0,1333584]),([],[0,148176,0,0,25137]),([],[N 153664,0,0,N 80164]),([],[0,0,N 26460]),([],[0,1764,0,0,63]),([],[245,0,0,35])],[([135531648,0,0,0,0,0,N 172872],[]),([0,0,N 135531648,0,0,N 3803184],[]),([0,N 261382464,0,0,N 10890936],[]),([29042496,0,0,0,0,0,N 148176],[]),([0,0,N 11928168,0,0,N 592704],[]),([0,N 21781872,0,0,1111320],[]),([1555848,0,0,0,0,0,N 15876],[]),([0,0,1555848,0,0,63504],[]),([0,222264,0,0,95256],[]),([24696,0,0,0,0,0,252],[]),([0,0,N 882,0,0,N 126],[])]),([([],[0,0,7260624]),([],[0,33882912,0,0,N 345744]),([],[N 128271024,0,0,N 2765952]),([],[0,0,4667544]),([],[0,N 7260624,0,0,18522]),([],[N 25412184,0,0,1815156]),([],[0,0,3889620]),([],[0,1518804,0,0,14553]),([],[N 240786,0,0,N 2646]),([],[0,0,52920]),([],[0,35280,0,0,693]),([],[3087,0,0,441])],[([0,0,N 12101040,0,0,N 172872],[]),([0,N 43563744],[]),([181515600,0,0,10890936,0,0,N 37044],[]),([0,0,N 6223392,0,0,N 444528],[]),([0,N 12446784],[]),([11409552,0,0,N 1111320,0,0,N 2646],[]),([0,0,296352,0,0,74088],[]),([0,N 889056],[]),([N 74088,0,0,N 95256,0,0,378],[]),([0,0,N 8820,0,0,N 1260],[])]),([([],[0,3226944,0,0,N 57624]),([],[N 29042496,0,0,N 1037232]),([],[0,0,N 2593080]),([],[0,N 8528352,0,0,4116]),([],[N 12446784,0,0,333396]),([],[0,0,1000188]),([],[0,N 382788,0,0,4851]),([],[N 444528,0,0,63504]),([],[0,0,87318]),([],[0,21756,0,0,462]),([],[N 1323,0,0,N 756]),([],[0,0,N 189]),([],[0,21,0,0,3])],[([0,N 9680832,0,0,172872],[]),([48404160,0,0,3803184],[]),([0,0,1555848],[]),([0,0,0,0,444528],[]),([10372320,0,0,592704],[]),([0,0,444528],[]),([0,N 740880,0,0,N 74088],[]),([0,0,0,N 63504],[]),([0,0,31752],[]),([0,8820,0,0,1260],[]),([882,0,0,126],[])]),([([],[N 3764768,0,0,N 19208]),([],[]),([],[0,N 518616]),([],[N 768320,0,0,1372]),([],[0,0,N 55566]),([],[0,N 222264]),([],[N 72030,0,0,1617]),([],[0,0,N 3969]),([],[0,N 19845]),([],[N 5537,0,0,154]),([],[0,0,567]),([],[0,189]),([],[7,0,0,1])],[([4840416,0,0,172872],[]),([],[]),([0,N 518616,0,0,37044],[]),([1037232,0,0,148176],[]),([0,0,166698],[]),([0,N 37044,0,0,2646],[]),([55566,0,0,15876],[]),([0,0,23814],[]),([0,5292,0,0,N 378],[]),([882,0,0,N 252],[])])],[([([N 1686616064,0,0,N 165649792,0,0,N 3764768],[]),([0,0,813189888,0,0,N 29042496],[]),([0,271063296,0,0,N 128271024],[]),([662599168,0,0,2151296,0,0,N 768320],[]),([0,0,21781872,0,0,N 12446784],[]),([0,N 101648736,0,0,N 25412184],[]),([N 17748192,0,0,N 2650704,0,0,N 72030],[]),([0,0,7779240,0,0,N 444528],[]),([0,1037232,0,0,N 240786],[]),([38416,0,0,N 153664,0,0,N 5537],[]),([0,0,37044,0,0,N 1323],[]),([0,12348,0,0,3087],[]),([1372,0,0,245,0,0,7],[])],[([],[0,0,0,19361664]),([],[0,0,38723328]),([],[0,N 116169984,0,0,3111696]),([],[0,0,0,12446784]),([],[0,0,5186160]),([],[0,N 2074464]),([],[0,0,0,370440]),([],[0,0,444528]),([],[0,74088,0,0,7938]),([],[0,0,0,N 1764]),([],[0,0,N 882])]),([([0,0,225886080,0,0,3226944],[]),([0,N 1084253184,0,0,33882912],[]),([271063296,0,0,300105792,0,0,N 518616],[]),([0,0,158120256,0,0,N 8528352],[]),([0,N 290424960,0,0,N 7260624],[]),([N 101648736,0,0,22819104,0,0,N 222264],[]),([0,0,26103672,0,0,N 382788],[]),([0,2074464,0,0,1518804],[]),([1037232,0,0,148176,0,0,N 19845],[]),([0,0,411600,0,0,21756],[]),([0,61740,0,0,35280],[]),([12348,0,0,1764,0,0,189],[]),([0,0,147,0,0,21],[])],[([],[0,0,N 19361664]),([],[0,0,0,0,N 691488]),([],[116169984,0,0,N 12446784]),([],[0,0,N 24893568]),([],[0,0,0,0,N 370440]),([],[2074464]),([],[0,0,740880]),([],[0,0,0,0,31752]),([],[N 74088,0,0,N 31752]),([],[0,0,N 14112]),([],[0,0,0,0,N 126])]),([([0,N 406594944,0,0,7260624],[]),([813189888,0,0,116169984],[]),([0,0,N 116169984,0,0,N 2593080],[]),([0,N 261382464,0,0,4667544],[]),([21781872,0,0,6223392,0,0,N 55566],[]),([0,0,0,0,0,1000188],[]),([0,N 7779240,0,0,3889620],[]),([7779240,0,0,1333584,0,0,N 3969],[]),([0,0,1611414,0,0,87318],[]),([0,37044,0,0,52920],[]),([37044,0,0,N 26460,0,0,567],[]),([0,0,N 1323,0,0,N 189],[])],[([],[0,19361664,0,0,N 345744]),([],[N 38723328,0,0,N 5531904]),([],[]),([],[0,24893568,0,0,N 444528]),([],[N 5186160,0,0,N 740880]),([],[]),([],[0,N 740880,0,0,13230]),([],[N 444528,0,0,N 63504]),([],[]),([],[0,14112,0,0,N 252]),([],[882,0,0,126])]),([([165649792,0,0,5378240,0,0,N 19208],[]),([0,0,N 58084992,0,0,N 1037232],[]),([0,N 48404160,0,0,N 2765952],[]),([94657024,0,0,N 5916064,0,0,1372],[]),([0,0,N 17114328,0,0,333396],[]),([0,N 11409552,0,0,1815156],[]),([9911328,0,0,732648,0,0,1617],[]),([0,0,1000188,0,0,63504],[]),([0,N 629748,0,0,N 2646],[]),([N 31556,0,0,N 80164,0,0,154],[]),([0,0,1323,0,0,N 756],[]),([0,1764,0,0,441],[]),([196,0,0,35,0,0,1],[])],[([],[N 19361664]),([],[0,0,5531904]),([],[0,12446784,0,0,N 74088]),([],[N 12446784]),([],[0,0,740880]),([],[0,0,0,0,N 5292]),([],[N 370440]),([],[0,0,63504]),([],[0,31752,0,0,756]),([],[1764]),([],[0,0,N 126])]),([([0,0,N 4033680,0,0,N 57624],[]),([0,4840416,0,0,N 345744],[]),([16941456,0,0,N 1728720],[]),([0,0,N 3860808,0,0,4116],[]),([0,N 2593080,0,0,18522],[]),([2593080,0,0,N 74088],[]),([0,0,N 104958,0,0,4851],[]),([0,N 370440,0,0,14553],[]),([37044,0,0,25137],[]),([0,0,52185,0,0,462],[]),([0,14112,0,0,693],[]),([1764,0,0,63],[]),([0,0,21,0,0,3],[])],[([],[0,0,345744]),([],[0,691488]),([],[N 3111696,0,0,74088]),([],[0,0,444528]),([],[0,370440]),([],[0,0,0,5292]),([],[0,0,N 13230]),([],[0,N 31752]),([],[N 7938,0,0,N 756]),([],[0,0,252]),([],[0,126])])])
def pZ1:Q3:=([],[])
def pZ2:Q3:=([],[])
def pZ3:Q3:=([],[])
def pBxy:Q3:=([([([],[]),([],[1])],[([0,1],[])])],[])
def pByz:Q3:=([([([],[1])],[([1],[])])],[])
def pBxw:Q3:=([([([0,1],[]),([1],[])],[])],[])
def pBxz:Q3:=([([([0,21],[]),([21],[])],[])],[])
def pBxv:Q3:=([([([],[]),([0,1],[])],[])],[])
def pBxx:Q3:=([([([],[]),([0,3],[])],[])],[])
def pByy:Q3:=([([],[([],[1])])],[])
def pBzw:Q3:=([([([1],[])],[])],[])
def pBzz:Q3:=([([([21],[])],[])],[])
def pBm:Q3:=([([([21],[])],[([],[1])])],[])
def pBf:Q3:=([([([N 21],[])],[([],[1])])],[])
def pBx:Q3:=([([([],[0,N 14]),([],[N 42]),([],[]),([],[0,1])],[([0,N 42],[]),([N 14,0,0,1],[])])],[])
def pBy:Q3:=([([([N 392,0,0,7],[]),([0,0,63],[]),([0,63],[]),([7,0,0,1],[])],[])],[])
def pBz:Q3:=([([([],[28]),([],[]),([],[0,3]),([],[1])],[([28,0,0,1],[]),([0,0,3],[])])],[])
def pCxy:Q3:=([([([0,294],[]),([N 294],[]),([0,0,63],[]),([0,105],[]),([21],[])],[([],[0,14]),([],[42]),([],[]),([],[0,N 1])])],[])
def pCyz:Q3:=([([([N 588],[]),([0,0,42],[]),([0,63],[]),([N 21],[]),([0,0,N 3],[])],[([],[N 28]),([],[]),([],[0,N 3]),([],[N 1])])],[])
def pCxw:Q3:=([([([],[0,N 14]),([],[N 14]),([],[]),([],[0,4]),([],[1])],[([0,N 42],[]),([14,0,0,2],[]),([0,0,3],[])])],[])
def pCxz:Q3:=([([([],[0,N 294]),([],[N 294]),([],[]),([],[0,84]),([],[21])],[([0,N 882],[]),([294,0,0,42],[]),([0,0,63],[])])],[])
def pCxv:Q3:=([([([],[]),([],[0,N 14]),([],[N 42]),([],[]),([],[0,1])],[([],[]),([0,N 42],[]),([N 14,0,0,1],[])])],[])
def pCxx:Q3:=([([([],[]),([],[0,N 42]),([],[N 126]),([],[]),([],[0,3])],[([],[]),([0,N 126],[]),([N 42,0,0,3],[])])],[])
def pCyy:Q3:=([([],[([392,0,0,N 7],[]),([0,0,N 63],[]),([0,N 63],[]),([N 7,0,0,N 1],[])])],[])
def pCzw:Q3:=([([([],[28]),([],[]),([],[0,3]),([],[1])],[([28,0,0,1],[]),([0,0,3],[])])],[])
def pCzz:Q3:=([([([],[588]),([],[]),([],[0,63]),([],[21])],[([588,0,0,21],[]),([0,0,63],[])])],[])
def pCm:Q3:=([([([],[588]),([],[]),([],[0,63]),([],[21])],[([980,0,0,14],[]),([],[]),([0,N 63],[]),([N 7,0,0,N 1],[])])],[])
def pCf:Q3:=([([([],[N 588]),([],[]),([],[0,N 63]),([],[N 21])],[([N 196,0,0,N 28],[]),([0,0,N 126],[]),([0,N 63],[]),([N 7,0,0,N 1],[])])],[])
def pCx:Q3:=([([([],[0,N 537824,0,0,N 2744]),([],[]),([],[0,0,N 74088]),([],[0,N 32928,0,0,588]),([],[0,0,0,N 7938]),([],[0,0,N 21168]),([],[0,N 5586,0,0,147]),([],[0,0,0,567]),([],[0,0,189]),([],[0,7,0,0,1])],[([0,N 691488,0,0,N 24696],[]),([],[]),([0,0,74088,0,0,N 5292],[]),([0,N 49392,0,0,N 17640],[]),([0,0,0,N 23814],[]),([0,0,N 5292,0,0,378],[]),([0,N 882,0,0,252],[])])],[])
def pCy:Q3:=([([([N 3764768,0,0,N 557032,0,0,N 2744],[]),([],[]),([0,N 518616,0,0,N 74088],[]),([N 230496,0,0,N 28812,0,0,588],[]),([0,0,N 55566,0,0,N 7938],[]),([0,N 148176,0,0,N 21168],[]),([N 39102,0,0,N 4557,0,0,147],[]),([0,0,3969,0,0,567],[]),([0,1323,0,0,189],[]),([49,0,0,14,0,0,1],[])],[([],[N 691488,0,0,N 24696]),([],[]),([],[0,74088,0,0,N 5292]),([],[N 49392,0,0,N 17640]),([],[0,0,N 23814]),([],[0,N 5292,0,0,378]),([],[N 882,0,0,252])])],[])
def pCz:Q3:=([([([],[N 537824,0,0,N 2744]),([],[]),([],[0,N 74088]),([],[N 32928,0,0,588]),([],[0,0,N 7938]),([],[0,N 21168]),([],[N 5586,0,0,147]),([],[0,0,567]),([],[0,189]),([],[7,0,0,1])],[([N 691488,0,0,N 24696],[]),([],[]),([0,74088,0,0,N 5292],[]),([N 49392,0,0,N 17640],[]),([0,0,N 23814],[]),([0,N 5292,0,0,378],[]),([N 882,0,0,252],[])])],[])
def pW1:Q3:=([],[])
def pW2:Q3:=([],[])
def pW3:Q3:=([],[])
def pOyy:Q3:=([([([153664,0,0,N 5488,0,0,49],[]),([0,0,N 49392,0,0,882],[]),([0,N 49392,0,0,4851],[]),([N 5488,0,0,7252,0,0,14],[]),([0,0,4851,0,0,126],[]),([0,882,0,0,126],[]),([49,0,0,14,0,0,1],[])],[])],[])
def pOxx:Q3:=([([([0,0,13720,0,0,196],[]),([0,16464,0,0,588],[]),([13720,0,0,1568,0,0,7],[]),([0,0,1568,0,0,N 28],[]),([0,588,0,0,N 168],[]),([196,0,0,N 28,0,0,1],[]),([0,0,7,0,0,1],[])],[([],[0,0,1176]),([],[0,3920,0,0,N 28]),([],[1176,0,0,N 84]),([],[0,0,N 84]),([],[0,N 28,0,0,2])])],[])
def pOzz:Q3:=([([([10976,0,0,1176,0,0,7],[]),([0,0,1176,0,0,42],[]),([0,1176,0,0,231],[]),([1176,0,0,112,0,0,1],[]),([0,0,231,0,0,15],[]),([0,42,0,0,15],[]),([7,0,0,1],[])],[([],[1568,0,0,56]),([],[0,0,168]),([],[0,168,0,0,6]),([],[56,0,0,20]),([],[0,0,6])])],[])
def pO7:Q3:=([([([],[196]),([],[]),([],[0,21]),([],[7])],[([196,0,0,7],[]),([0,0,21],[])])],[])
def pOr:Q3:=([([([],[4302592,0,0,N 153664,0,0,1372]),([],[0,0,N 1382976,0,0,24696]),([],[0,N 921984,0,0,119364,0,0,147]),([],[0,0,0,49392,0,0,3087]),([],[0,0,N 61740,0,0,18963]),([],[0,N 41160,0,0,30135,0,0,42]),([],[N 4116,0,0,22197,0,0,420]),([],[0,0,7497,0,0,504]),([],[0,1029,0,0,168,0,0,3]),([],[49,0,0,14,0,0,1])],[([4302592,0,0,0,0,0,N 4116,0,0,49],[]),([0,0,N 921984,0,0,N 41160,0,0,1029],[]),([0,N 1382976,0,0,N 61740,0,0,7497],[]),([N 153664,0,0,49392,0,0,22197,0,0,14],[]),([0,0,119364,0,0,30135,0,0,168],[]),([0,24696,0,0,18963,0,0,504],[]),([1372,0,0,3087,0,0,420,0,0,1],[]),([0,0,147,0,0,42,0,0,3],[])])],[])
def pOl:Q3:=([([([],[4302592,0,0,N 153664,0,0,1372]),([],[0,0,N 1382976,0,0,24696]),([],[0,N 921984,0,0,119364,0,0,147]),([],[0,0,0,49392,0,0,3087]),([],[0,0,N 61740,0,0,18963]),([],[0,N 41160,0,0,30135,0,0,42]),([],[N 4116,0,0,22197,0,0,420]),([],[0,0,7497,0,0,504]),([],[0,1029,0,0,168,0,0,3]),([],[49,0,0,14,0,0,1])],[([4302592,0,0,0,0,0,N 4116,0,0,49],[]),([0,0,N 921984,0,0,N 41160,0,0,1029],[]),([0,N 1382976,0,0,N 61740,0,0,7497],[]),([N 153664,0,0,49392,0,0,22197,0,0,14],[]),([0,0,119364,0,0,30135,0,0,168],[]),([0,24696,0,0,18963,0,0,504],[]),([1372,0,0,3087,0,0,420,0,0,1],[]),([0,0,147,0,0,42,0,0,3],[])])],[])
theorem d_Sxy:(mQk3 pX1 pM2 fun u=>mQk3 pX2 pY1 fun t=>aQk3 u t fun r=>qQ3 r pSxy)=true:=by decide +kernel
theorem d_Syz:(mQk3 pY1 pK1 fun u=>mQk3 pM2 pK1 fun t=>aQk3 u t fun r=>qQ3 r pSyz)=true:=by decide +kernel
theorem d_Sxw:(mQk3 pX1 pK1 fun u=>mQk3 pX2 pK1 fun t=>aQk3 u t fun r=>qQ3 r pSxw)=true:=by decide +kernel
theorem d_Sxz:(mQk3 pK21 pSxw fun r=>qQ3 r pSxz)=true:=by decide +kernel
theorem d_Sxv:(mQk3 pX1 pX2 fun r=>qQ3 r pSxv)=true:=by decide +kernel
theorem d_Sxx:(mQk3 pK3 pSxv fun r=>qQ3 r pSxx)=true:=by decide +kernel
theorem d_Syy:(mQk3 pY1 pM2 fun r=>qQ3 r pSyy)=true:=by decide +kernel
theorem d_Szw:(mQk3 pK1 pK1 fun r=>qQ3 r pSzw)=true:=by decide +kernel
theorem d_Szz:(mQk3 pK21 pSzw fun r=>qQ3 r pSzz)=true:=by decide +kernel
theorem d_Sm:(aQk3 pSyy pSzz fun r=>qQ3 r pSm)=true:=by decide +kernel
theorem d_Sf:(nQk3 pSzz fun n=>aQk3 pSyy n fun r=>qQ3 r pSf)=true:=by decide +kernel
theorem d_Sx:(mQk3 pSxy pSf fun u=>mQk3 pSyz pSxz fun t=>nQk3 t fun n=>aQk3 u n fun r=>qQ3 r pSx)=true:=by decide +kernel
theorem d_Sy:(mQk3 pSm pSf fun u=>mQk3 pSxx pSxz fun t=>aQk3 u t fun r=>qQ3 r pSy)=true:=by decide +kernel
theorem d_Sz:(mQk3 pSyz pSm fun u=>mQk3 pSxx pSxy fun t=>aQk3 u t fun r=>qQ3 r pSz)=true:=by decide +kernel
theorem d_Txy:(mQk3 pX2 pY3 fun u=>mQk3 pX3 pY2 fun t=>aQk3 u t fun r=>qQ3 r pTxy)=true:=by decide +kernel
theorem d_Tyz:(mQk3 pY2 pK1 fun u=>mQk3 pY3 pK1 fun t=>aQk3 u t fun r=>qQ3 r pTyz)=true:=by decide +kernel
theorem d_Txw:(mQk3 pX2 pK1 fun u=>mQk3 pX3 pK1 fun t=>aQk3 u t fun r=>qQ3 r pTxw)=true:=by decide +kernel
theorem d_Txz:(mQk3 pK21 pTxw fun r=>qQ3 r pTxz)=true:=by decide +kernel
theorem d_Txv:(mQk3 pX2 pX3 fun r=>qQ3 r pTxv)=true:=by decide +kernel
theorem d_Txx:(mQk3 pK3 pTxv fun r=>qQ3 r pTxx)=true:=by decide +kernel
theorem d_Tyy:(mQk3 pY2 pY3 fun r=>qQ3 r pTyy)=true:=by decide +kernel
theorem d_Tzw:(mQk3 pK1 pK1 fun r=>qQ3 r pTzw)=true:=by decide +kernel
theorem d_Tzz:(mQk3 pK21 pTzw fun r=>qQ3 r pTzz)=true:=by decide +kernel
theorem d_Tm:(aQk3 pTyy pTzz fun r=>qQ3 r pTm)=true:=by decide +kernel
theorem d_Tf:(nQk3 pTzz fun n=>aQk3 pTyy n fun r=>qQ3 r pTf)=true:=by decide +kernel
theorem d_Tx:(mQk3 pTxy pTf fun u=>mQk3 pTyz pTxz fun t=>nQk3 t fun n=>aQk3 u n fun r=>qQ3 r pTx)=true:=by decide +kernel
theorem d_Ty:(mQk3 pTm pTf fun u=>mQk3 pTxx pTxz fun t=>aQk3 u t fun r=>qQ3 r pTy)=true:=by decide +kernel
theorem d_Tz:(mQk3 pTyz pTm fun u=>mQk3 pTxx pTxy fun t=>aQk3 u t fun r=>qQ3 r pTz)=true:=by decide +kernel
theorem d_Lxy:(mQk3 pX1 pY3 fun u=>mQk3 pX3 pY1 fun t=>aQk3 u t fun r=>qQ3 r pLxy)=true:=by decide +kernel
theorem d_Lyz:(mQk3 pY1 pK1 fun u=>mQk3 pY3 pK1 fun t=>aQk3 u t fun r=>qQ3 r pLyz)=true:=by decide +kernel
theorem d_Lxw:(mQk3 pX1 pK1 fun u=>mQk3 pX3 pK1 fun t=>aQk3 u t fun r=>qQ3 r pLxw)=true:=by decide +kernel
theorem d_Lxz:(mQk3 pK21 pLxw fun r=>qQ3 r pLxz)=true:=by decide +kernel
theorem d_Lxv:(mQk3 pX1 pX3 fun r=>qQ3 r pLxv)=true:=by decide +kernel
theorem d_Lxx:(mQk3 pK3 pLxv fun r=>qQ3 r pLxx)=true:=by decide +kernel
theorem d_Lyy:(mQk3 pY1 pY3 fun r=>qQ3 r pLyy)=true:=by decide +kernel
theorem d_Lzw:(mQk3 pK1 pK1 fun r=>qQ3 r pLzw)=true:=by decide +kernel
theorem d_Lzz:(mQk3 pK21 pLzw fun r=>qQ3 r pLzz)=true:=by decide +kernel
theorem d_Lm:(aQk3 pLyy pLzz fun r=>qQ3 r pLm)=true:=by decide +kernel
theorem d_Lf:(nQk3 pLzz fun n=>aQk3 pLyy n fun r=>qQ3 r pLf)=true:=by decide +kernel
theorem d_Lx:(mQk3 pLxy pLf fun u=>mQk3 pLyz pLxz fun t=>nQk3 t fun n=>aQk3 u n fun r=>qQ3 r pLx)=true:=by decide +kernel
theorem d_Ly:(mQk3 pLm pLf fun u=>mQk3 pLxx pLxz fun t=>aQk3 u t fun r=>qQ3 r pLy)=true:=by decide +kernel
theorem d_Lz:(mQk3 pLyz pLm fun u=>mQk3 pLxx pLxy fun t=>aQk3 u t fun r=>qQ3 r pLz)=true:=by decide +kernel
theorem d_Rxy:(mQk3 pSx pTy fun u=>mQk3 pTx pSy fun t=>aQk3 u t fun r=>qQ3 r pRxy)=true:=by decide +kernel
theorem d_Ryz:(mQk3 pSy pTz fun u=>mQk3 pTy pSz fun t=>aQk3 u t fun r=>qQ3 r pRyz)=true:=by decide +kernel
theorem d_Rxw:(mQk3 pSx pTz fun u=>mQk3 pTx pSz fun t=>aQk3 u t fun r=>qQ3 r pRxw)=true:=by decide +kernel
theorem d_Rxz:(mQk3 pK21 pRxw fun r=>qQ3 r pRxz)=true:=by decide +kernel
theorem d_Rxv:(mQk3 pSx pTx fun r=>qQ3 r pRxv)=true:=by decide +kernel
theorem d_Rxx:(mQk3 pK3 pRxv fun r=>qQ3 r pRxx)=true:=by decide +kernel
theorem d_Ryy:(mQk3 pSy pTy fun r=>qQ3 r pRyy)=true:=by decide +kernel
theorem d_Rzw:(mQk3 pSz pTz fun r=>qQ3 r pRzw)=true:=by decide +kernel
theorem d_Rzz:(mQk3 pK21 pRzw fun r=>qQ3 r pRzz)=true:=by decide +kernel
theorem d_Rm:(aQk3 pRyy pRzz fun r=>qQ3 r pRm)=true:=by decide +kernel
theorem d_Rf:(nQk3 pRzz fun n=>aQk3 pRyy n fun r=>qQ3 r pRf)=true:=by decide +kernel
theorem d_Rx:(mQk3 pRxy pRf fun u=>mQk3 pRyz pRxz fun t=>nQk3 t fun n=>aQk3 u n fun r=>qQ3 r pRx)=true:=by decide +kernel
theorem d_Ry:(mQk3 pRm pRf fun u=>mQk3 pRxx pRxz fun t=>aQk3 u t fun r=>qQ3 r pRy)=true:=by decide +kernel
theorem d_Rz:(mQk3 pRyz pRm fun u=>mQk3 pRxx pRxy fun t=>aQk3 u t fun r=>qQ3 r pRz)=true:=by decide +kernel
theorem d_Z1:(mQk3 pLx pRy fun u=>mQk3 pLy pRx fun t=>nQk3 t fun n=>aQk3 u n fun r=>qQ3 r pZ1)=true:=by decide +kernel
theorem d_Z2:(mQk3 pLx pRz fun u=>mQk3 pLz pRx fun t=>nQk3 t fun n=>aQk3 u n fun r=>qQ3 r pZ2)=true:=by decide +kernel
theorem d_Z3:(mQk3 pLy pRz fun u=>mQk3 pLz pRy fun t=>nQk3 t fun n=>aQk3 u n fun r=>qQ3 r pZ3)=true:=by decide +kernel
theorem d_Bxy:(mQk3 pX1 pY2 fun u=>mQk3 pX2 pY1 fun t=>aQk3 u t fun r=>qQ3 r pBxy)=true:=by decide +kernel
theorem d_Byz:(mQk3 pY1 pK1 fun u=>mQk3 pY2 pK1 fun t=>aQk3 u t fun r=>qQ3 r pByz)=true:=by decide +kernel
theorem d_Bxw:(mQk3 pX1 pK1 fun u=>mQk3 pX2 pK1 fun t=>aQk3 u t fun r=>qQ3 r pBxw)=true:=by decide +kernel
theorem d_Bxz:(mQk3 pK21 pBxw fun r=>qQ3 r pBxz)=true:=by decide +kernel
theorem d_Bxv:(mQk3 pX1 pX2 fun r=>qQ3 r pBxv)=true:=by decide +kernel
theorem d_Bxx:(mQk3 pK3 pBxv fun r=>qQ3 r pBxx)=true:=by decide +kernel
theorem d_Byy:(mQk3 pY1 pY2 fun r=>qQ3 r pByy)=true:=by decide +kernel
theorem d_Bzw:(mQk3 pK1 pK1 fun r=>qQ3 r pBzw)=true:=by decide +kernel
theorem d_Bzz:(mQk3 pK21 pBzw fun r=>qQ3 r pBzz)=true:=by decide +kernel
theorem d_Bm:(aQk3 pByy pBzz fun r=>qQ3 r pBm)=true:=by decide +kernel
theorem d_Bf:(nQk3 pBzz fun n=>aQk3 pByy n fun r=>qQ3 r pBf)=true:=by decide +kernel
theorem d_Bx:(mQk3 pBxy pBf fun u=>mQk3 pByz pBxz fun t=>nQk3 t fun n=>aQk3 u n fun r=>qQ3 r pBx)=true:=by decide +kernel
theorem d_By:(mQk3 pBm pBf fun u=>mQk3 pBxx pBxz fun t=>aQk3 u t fun r=>qQ3 r pBy)=true:=by decide +kernel
theorem d_Bz:(mQk3 pByz pBm fun u=>mQk3 pBxx pBxy fun t=>aQk3 u t fun r=>qQ3 r pBz)=true:=by decide +kernel
theorem d_Cxy:(mQk3 pBx pM2 fun u=>mQk3 pX2 pBy fun t=>aQk3 u t fun r=>qQ3 r pCxy)=true:=by decide +kernel
theorem d_Cyz:(mQk3 pBy pK1 fun u=>mQk3 pM2 pBz fun t=>aQk3 u t fun r=>qQ3 r pCyz)=true:=by decide +kernel
theorem d_Cxw:(mQk3 pBx pK1 fun u=>mQk3 pX2 pBz fun t=>aQk3 u t fun r=>qQ3 r pCxw)=true:=by decide +kernel
theorem d_Cxz:(mQk3 pK21 pCxw fun r=>qQ3 r pCxz)=true:=by decide +kernel
theorem d_Cxv:(mQk3 pBx pX2 fun r=>qQ3 r pCxv)=true:=by decide +kernel
theorem d_Cxx:(mQk3 pK3 pCxv fun r=>qQ3 r pCxx)=true:=by decide +kernel
theorem d_Cyy:(mQk3 pBy pM2 fun r=>qQ3 r pCyy)=true:=by decide +kernel
theorem d_Czw:(mQk3 pBz pK1 fun r=>qQ3 r pCzw)=true:=by decide +kernel
theorem d_Czz:(mQk3 pK21 pCzw fun r=>qQ3 r pCzz)=true:=by decide +kernel
theorem d_Cm:(aQk3 pCyy pCzz fun r=>qQ3 r pCm)=true:=by decide +kernel
theorem d_Cf:(nQk3 pCzz fun n=>aQk3 pCyy n fun r=>qQ3 r pCf)=true:=by decide +kernel
theorem d_Cx:(mQk3 pCxy pCf fun u=>mQk3 pCyz pCxz fun t=>nQk3 t fun n=>aQk3 u n fun r=>qQ3 r pCx)=true:=by decide +kernel
theorem d_Cy:(mQk3 pCm pCf fun u=>mQk3 pCxx pCxz fun t=>aQk3 u t fun r=>qQ3 r pCy)=true:=by decide +kernel
theorem d_Cz:(mQk3 pCyz pCm fun u=>mQk3 pCxx pCxy fun t=>aQk3 u t fun r=>qQ3 r pCz)=true:=by decide +kernel
theorem d_W1:(mQk3 pCx pY1 fun u=>mQk3 pCy pX1 fun t=>nQk3 t fun n=>aQk3 u n fun r=>qQ3 r pW1)=true:=by decide +kernel
theorem d_W2:(mQk3 pCx pK1 fun u=>mQk3 pCz pX1 fun t=>nQk3 t fun n=>aQk3 u n fun r=>qQ3 r pW2)=true:=by decide +kernel
theorem d_W3:(mQk3 pCy pK1 fun u=>mQk3 pCz pY1 fun t=>nQk3 t fun n=>aQk3 u n fun r=>qQ3 r pW3)=true:=by decide +kernel
theorem d_Oyy:(mQk3 pBy pBy fun r=>qQ3 r pOyy)=true:=by decide +kernel
theorem d_Oxx:(mQk3 pBx pBx fun r=>qQ3 r pOxx)=true:=by decide +kernel
theorem d_Ozz:(mQk3 pBz pBz fun r=>qQ3 r pOzz)=true:=by decide +kernel
theorem d_O7:(mQk3 pK7 pBz fun r=>qQ3 r pO7)=true:=by decide +kernel
theorem d_Or:(mQk3 pBx pOxx fun u=>mQk3 pO7 pOzz fun t=>aQk3 u t fun r=>qQ3 r pOr)=true:=by decide +kernel
theorem d_Ol:(mQk3 pOyy pBz fun r=>qQ3 r pOl)=true:=by decide +kernel
theorem d_on:qQ3 pOl pOr=true:=by decide +kernel
end
end Go.Proofs.YtfhppenjbmmadaaGreatDoor
