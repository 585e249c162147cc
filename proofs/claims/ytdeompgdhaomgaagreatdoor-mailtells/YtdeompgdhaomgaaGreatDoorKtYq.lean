/- Out of Yq. -/
import Derived.Test.YtdeompgdhaomgaaGreatDoorKtYm
namespace Go.Proofs.YtdeompgdhaomgaaGreatDoor
open Go.RowKit Go.Sort Go.Proofs.Tryz
set_option linter.unusedVariables false
set_option maxRecDepth 100000
set_option maxHeartbeats 4000000
def alD {n:Nat} (t:TT (n+1)):Al:=(bsL (uAt (kc t) 0) 32,uAt (kc t) 1,kdOf (uAt (kc t) 2),if kdOf (uAt (kc t) 2)=0 then eB else bsL (uAt (kc t) 3) 32,if kdOf (uAt (kc t) 2)=0 then eB else bsL (uAt (kc t) 4) 32)
def exD {n:Nat} (t:TT (n+3)):Ex:=(bsL (uAt (kc t) 0) 20,(((kc t)[1]?).map fun t1=>(kc t1).map alD).getD [])
theorem bd_e1(s:ByteArray)(w:World):(Instr.build 47 (([0]:List Nat).zip [.string s]).toArray).run prog w=.ok (.agg #[.string s,.slice none 0 0]) w:=by kernel_rfl
theorem bd_a3(x0:ByteArray)(u1:Nat)(k:Int)(w:World):(Instr.build 133 (([0,1,2]:List Nat).zip [.string x0,U u1,Z k]).toArray).run prog w=.ok (.agg (al8 (x0,u1,k,eB,eB)).toArray) w:=by kernel_rfl
theorem ze59:zeV prog 133=some (al8 (eB,0,0,eB,eB)).toArray:=by kernel_rfl
theorem over8(a:Al)(c:Array Value)(h:c.size=8):over c 0 (al8 a).toArray=(al8 a).toArray:=by
 obtain⟨l⟩:=c
 match l,h with
 | [a0,a1,a2,a3,a4,a5,a6,a7],_=>rfl
theorem loadU{w:World}{g o:Nat}{k:Int}{u:Nat}{s:ByteArray}{lv:Value}(h:zo w g o (tx (k,u,s,lv))):(loadVar 57 ⟨g,o+1,none⟩).run prog w=.ok (U u) w:=by
 have h4:zo w g (o+1) [B (l0 u),B (l1 u),B (l2 u),B (l3 u)]:=fun j c hj=>by
  have:=h (1+j) c (by
   match j,hj with
   | 0,hj=>exact hj
   | 1,hj=>exact hj
   | 2,hj=>exact hj
   | 3,hj=>exact hj)
  rw[show o+1+j=o+(1+j) by omega];exact this
 exact loadN underlying57 rfl (n:=4) (by kernel_rfl) rfl h4
abbrev xoK:List Nat:=[0,1,2,3,4]
abbrev xoV (av ov:Value) (i:Nat):Vs:=frm 91 [(0,Sum.inl av),(1,Sum.inr (0,0)),(2,Sum.inl (.slice none 0 0)),(3,Sum.inl ov),(4,Sum.inl (Z i))]
abbrev xiK:List Nat:=[0,1,2,3,4,5,6,7]
abbrev xiV (av ov:Value) (i:Nat) (lv:Value) (j:Nat):Vs:=frm 91 [(0,Sum.inl av),(1,Sum.inr (0,0)),(2,Sum.inl (.slice none 0 0)),(3,Sum.inl ov),(4,Sum.inl (Z i)),(5,Sum.inr (1,0)),(6,Sum.inl lv),(7,Sum.inl (Z j))]
theorem rreadExits{n:Nat}{w:World}{kk:Int}{uu:Nat}{ss:ByteArray}{ad3:Option Addr}{cap3:Nat}{x:List (TT (n+3))}(h:LAf (· < w.heap.size) w (n+4) (.slice ad3 x.length cap3) x)(hl:x.length<100000000)(hok:∀ t∈x,okEx t):Calls prog 50 #[.agg (tx (kk,uu,ss,.slice ad3 x.length cap3)).toArray] w (SlP 2 CE (x.map exD) w):=by
 obtain⟨ad',cap',he,hm⟩:=h;have he1:ad3=ad':=by injection he
 subst he1;obtain⟨n3,hn3⟩:∃ n3,x.length=n3:=⟨_,rfl⟩
 rw[hn3];refine inQ (J:=QJ CE w 47 2 (.slice none 0 0) [] [] noK) (F:=QF w (.slice none 0 0) noK) func50 (QJ.start _ _ _ _) fun a I=>?_;refine goQ [] (QJ.rs CE.loc _ _ _ _ _ _ _) I fun β a w1 I hb=>?_
 let St:Nat→Act→World→Prop:=fun k a w'=>∃(i:Nat) (β:Nat→Nat) (u:Nat→Value) (ad:Option Addr) (cap:Nat) (X:List (List Value)) (K:Nat→Prop),k=n3-i∧i≤n3∧X.length=i ∧
  SI (QJ CE w 47 2 (.slice ad i cap) X ((x.take i).map exD) K) (QF w (.slice ad i cap) K) [] β (cfC (zc Tryz.f50) (zl (zg 91 xoK) u 0 (xoV (.agg (tx (kk,uu,ss,.slice ad3 n3 cap3)).toArray) (.slice ad i cap) i)) [(0,(tx (kk,uu,ss,.slice ad3 n3 cap3)).toArray)] 1) a w'
 refine lpM (zc Tryz.f50) St n3 ?_ ?_
 ·obtain⟨u,Iu⟩:=I.scr (zc Tryz.f50) (zg 91 xoK) (xoV (.agg (tx (kk,uu,ss,.slice ad3 n3 cap3)).toArray) (.slice none 0 0) 0) [(0,(tx (kk,uu,ss,.slice ad3 n3 cap3)).toArray)] 1;exact⟨0,β,u,none,0,[],noK,by omega,Nat.zero_le _,rfl,Iu⟩
 rintro k a3 w3 ⟨i,β3,u,ad,cap,X,K,rfl,hi,hXi,I3⟩;refine zv (tm:=zl (zg 91 xoK) u 0 (xoV (.agg (tx (kk,uu,ss,.slice ad3 n3 cap3)).toArray) (.slice ad i cap) i)) (rows:=[(0,(tx (kk,uu,ss,.slice ad3 n3 cap3)).toArray)]) (nx:=1) ?_;rcases Nat.lt_or_ge i n3 with hil|hil
 ·obtain⟨⟨kx,ux,sx,lx⟩,h1⟩:∃ t,x[i]? = some t:=⟨_,List.getElem?_eq_getElem (by omega)⟩
  obtain⟨⟨k0,u0,s0,y0⟩,⟨k1,u1,s1,y1⟩,hlx,hny,hoka⟩:=hok _ (List.mem_of_getElem? h1);simp only[]at hlx hny hoka;subst hlx;obtain⟨ga,offa,vx,rfl,hga,hcx,hLx⟩:=hm i _ h1;obtain⟨adx,capx,hvx,hhx⟩:=hLx;subst hvx;obtain⟨gx,offx,v0,rfl,hgx,hc0,hL0⟩:=hhx 0 (k0,u0,s0,y0) rfl;obtain⟨gx1,offx1,v1,e1,_,hc1,hL1⟩:=hhx 1 (k1,u1,s1,y1) rfl;cases e1;obtain⟨ad0,m0,cap0,rfl⟩:=hL0.slice;obtain⟨zz,hzz⟩:∃ y:List (TT (n+1)),y=y1:=⟨y1,rfl⟩
  subst hzz;obtain⟨ady,capy,hvy,hhy⟩:=hL1;subst hvy;simp only[]at hcx hc0 hc1;obtain⟨ny,hnye⟩:∃ ny,zz.length=ny:=⟨_,rfl⟩
  obtain⟨L,hL⟩:∃ L,(x.take i).map exD=L:=⟨_,rfl⟩
  rw[hL]at I3;have hexd:exD (n:=n) (kx,ux,sx,[(k0,u0,s0,y0),(k1,u1,s1,zz)])=(bsL u0 20,zz.map alD):=rfl;have htk0:(x.take (i+1)).map exD=L++[(bsL u0 20,zz.map alD)]:=by rw[List.take_add_one,h1,List.map_append,hL,← hexd];rfl
  have ldx:∀ w',Below w.heap.size w w'→(loadVar 48 ⟨ga,offa+i*7+6,none⟩).run prog w'=.ok (.slice (some ⟨gx,offx,none⟩) 2 capx) w':=fun w' hb=>xk (hcx.keep (hb.block ga hga)) 6 rfl 48 underlying48 rfl
  have ldt:∀ w',Below w.heap.size w w'→(loadVar 59 ⟨gx,offx+0*7,none⟩).run prog w'=.ok (.agg (tx (k0,u0,s0,.slice ad0 m0 cap0)).toArray) w':=fun w' hb=>qe (hc0.keep (hb.block gx hgx))
  have ldy:∀ w',Below w.heap.size w w'→(loadVar 48 ⟨gx,offx+1*7+6,none⟩).run prog w'=.ok (.slice ady ny capy) w':=fun w' hb=>by
   rw[← hnye];exact xk (hc1.keep (hb.block gx hgx)) 6 rfl 48 underlying48 rfl
  obtain⟨sb,hsb⟩:∃ s,bsL u0 20=s:=⟨_,rfl⟩
  have hcut:∀ w',Calls prog 49 #[.agg (tx (k0,u0,s0,.slice ad0 m0 cap0)).toArray,Z (20:Nat)] w' fun e w''=>e=.returned (.string sb)∧Below w'.heap.size w' w'':=fun w'=>by rw[← hsb];exact rcut k0 u0 s0 ad0 m0 cap0 20 (by decide) w'
  rw[hsb]at htk0
  refine goT (T:=QJ CE w 47 2 (.slice ad i cap) X L K) [lS underlying48 (ad:=some ⟨ga,offa,none⟩) (n:=n3) (cap:=cap3) rfl,klT i n3,iA 48 underlying48 (sz:=7) (by kernel_rfl) (g:=ga) (off:=offa) (n:=n3) (cap:=cap3) (i:=i) hil,ldA 48 (fun w' h=>ldx w' h.below),iA 48 underlying48 (sz:=7) (by kernel_rfl) (g:=gx) (off:=offx) (n:=2) (cap:=capx) (i:=0) (by decide),ldA 59 (fun w' h=>ldt w' h.below),cA func49 (fun w' _=>hcut w'),dO 47 [0] (bd_e1 sb),iA 48 underlying48 (sz:=7) (by kernel_rfl) (g:=ga) (off:=offa) (n:=n3) (cap:=cap3) (i:=i) hil,ldA 48 (fun w' h=>ldx w' h.below),iA 48 underlying48 (sz:=7) (by kernel_rfl) (g:=gx) (off:=offx) (n:=2) (cap:=capx) (i:=1) (by decide),ldA 48 (fun w' h=>ldy w' h.below)] (QJ.rs CE.loc _ _ _ _ _ _ _) (fun _ h=>h) I3 fun β4 a4 w4 I4 hb4=>?_
  let St2:Nat→Act→World→Prop:=fun k a w'=>∃(j:Nat) (β:Nat→Nat) (u:Nat→Value) (ad2:Option Addr) (cap2:Nat) (X2:List (List Value)) (K2:Nat→Prop),k=ny-j∧j≤ny∧X2.length=j∧(∀ k,QF w (.slice ad i cap) K k→(Value.slice ad2 j cap2).ownBlock≠some k)∧(∀ k,¬ K2 k) ∧
   SI (fun w'=>QJ CA w 133 8 (.slice ad2 j cap2) X2 ((zz.take j).map alD) K2 w'∧QJ CE w 47 2 (.slice ad i cap) X L K w') (fun k=>QF w (.slice ad2 j cap2) K2 k∨QF w (.slice ad i cap) K k) [] β (cfC (yn Tryz.f50) (zl (zg 91 xiK) u 0 (xiV (.agg (tx (kk,uu,ss,.slice (some ⟨ga,offa,none⟩) n3 cap3)).toArray) (.slice ad i cap) i (.slice ady ny capy) j)) [(0,(tx (kk,uu,ss,.slice (some ⟨ga,offa,none⟩) n3 cap3)).toArray),(1,#[.string sb,.slice ad2 j cap2])] 2) a w'
  refine lpM (yn Tryz.f50) St2 ny ?_ ?_
  ·obtain⟨u',Iu⟩:=I4.scr (yn Tryz.f50) (zg 91 xiK) (xiV (.agg (tx (kk,uu,ss,.slice (some ⟨ga,offa,none⟩) n3 cap3)).toArray) (.slice ad i cap) i (.slice ady ny capy) 0) [(0,(tx (kk,uu,ss,.slice (some ⟨ga,offa,none⟩) n3 cap3)).toArray),(1,#[.string sb,.slice none 0 0])] 2;refine⟨0,β4,u',none,0,[],noK,by omega,Nat.zero_le _,rfl,fun k _ h=>(by cases h),fun k h=>h.elim,?_⟩;refine Iu.less ⟨(QJ.rs CA.loc w 133 8 (.slice none 0 0) [] [] noK).loc w w4 (QJ.start _ _ _ _) (zi.of_below Iu.hJ.below),Iu.hJ⟩ fun k hk=>?_;rcases hk with(hk | hk | hk) | hk
   ·exact .inl hk
   ·cases hk
   ·exact hk.elim
   ·exact hk
  rintro k2 a5 w5 ⟨j,β5,u5,ad2,cap2,X2,K2,rfl,hj,hXj,hF2,hKn,I5⟩;obtain⟨L2,hL2⟩:∃ L2,(zz.take j).map alD=L2:=⟨_,rfl⟩
  rw[hL2]at I5;refine zv (tm:=zl (zg 91 xiK) u5 0 (xiV (.agg (tx (kk,uu,ss,.slice (some ⟨ga,offa,none⟩) n3 cap3)).toArray) (.slice ad i cap) i (.slice ady ny capy) j)) (rows:=[(0,(tx (kk,uu,ss,.slice (some ⟨ga,offa,none⟩) n3 cap3)).toArray),(1,#[.string sb,.slice ad2 j cap2])]) (nx:=2) ?_;have hTB:∀ w',QJ CA w 133 8 (.slice ad2 j cap2) X2 L2 K2 w'∧QJ CE w 47 2 (.slice ad i cap) X L K w'→Below w.heap.size w w':=fun w' h=>h.2.below
  rcases Nat.lt_or_ge j ny with hjl|hjl
  ·obtain⟨⟨kz,uz,sz,lz⟩,h2⟩:∃ t,zz[j]? = some t:=⟨_,List.getElem?_eq_getElem (by omega)⟩
   obtain⟨⟨q0,p0,r0,c0⟩,⟨q1,p1,r1,c1⟩,⟨q2,p2,r2,c2⟩,⟨q3,p3,r3,c3⟩,⟨q4,p4,r4,c4⟩,hlz,hpW⟩:=hoka _ (List.mem_of_getElem? h2);simp only[]at hlz hpW;subst hlz;obtain⟨gy,offy,vz,rfl,hgy,hcz,hLz⟩:=hhy j _ h2;obtain⟨adp,capp,hvz,hhp⟩:=hLz;subst hvz;obtain⟨gp,offp,w0,rfl,hgp,hd0,hM0⟩:=hhp 0 (q0,p0,r0,c0) rfl;obtain⟨g1,o1,w1',e1,_,hd1,hM1⟩:=hhp 1 (q1,p1,r1,c1) rfl;obtain⟨g2,o2,w2',e2,_,hd2,hM2⟩:=hhp 2 (q2,p2,r2,c2) rfl;obtain⟨g3,o3,w3',e3,_,hd3,hM3⟩:=hhp 3 (q3,p3,r3,c3) rfl;obtain⟨g4,o4,w4',e4,_,hd4,hM4⟩:=hhp 4 (q4,p4,r4,c4) rfl;cases e1;cases e2;cases e3;cases e4;obtain⟨b0,n0,d0,rfl⟩:=hM0.slice
   obtain⟨b2,n2,d2,rfl⟩:=hM2.slice;obtain⟨b3,n3',d3,rfl⟩:=hM3.slice;obtain⟨b4,n4,d4,rfl⟩:=hM4.slice;simp only[]at hcz hd0 hd1 hd2 hd3 hd4;have lda:∀ w',Below w.heap.size w w'→(loadVar 48 ⟨gy,offy+j*7+6,none⟩).run prog w'=.ok (.slice (some ⟨gp,offp,none⟩) 5 capp) w':=fun w' hb=>xk (hcz.keep (hb.block gy hgy)) 6 rfl 48 underlying48 rfl
   have ld0:∀ w',Below w.heap.size w w'→(loadVar 59 ⟨gp,offp+0*7,none⟩).run prog w'=.ok (.agg (tx (q0,p0,r0,.slice b0 n0 d0)).toArray) w':=fun w' hb=>qe (hd0.keep (hb.block gp hgp))
   have ld1:∀ w',Below w.heap.size w w'→(loadVar 57 ⟨gp,offp+1*7+1,none⟩).run prog w'=.ok (U p1) w':=fun w' hb=>loadU (hd1.keep (hb.block gp hgp))
   have ld2:∀ w',Below w.heap.size w w'→(loadVar 59 ⟨gp,offp+2*7,none⟩).run prog w'=.ok (.agg (tx (q2,p2,r2,.slice b2 n2 d2)).toArray) w':=fun w' hb=>qe (hd2.keep (hb.block gp hgp))
   have ld3:∀ w',Below w.heap.size w w'→(loadVar 59 ⟨gp,offp+3*7,none⟩).run prog w'=.ok (.agg (tx (q3,p3,r3,.slice b3 n3' d3)).toArray) w':=fun w' hb=>qe (hd3.keep (hb.block gp hgp))
   have ld4:∀ w',Below w.heap.size w w'→(loadVar 59 ⟨gp,offp+4*7,none⟩).run prog w'=.ok (.agg (tx (q4,p4,r4,.slice b4 n4 d4)).toArray) w':=fun w' hb=>qe (hd4.keep (hb.block gp hgp))
   have hsm:=rsmall q2 p2 r2 b2 n2 d2;have hcv:=cnvZ p2;obtain⟨e0,he0⟩:∃ s,bsL p0 32=s:=⟨_,rfl⟩
   obtain⟨e3,he3⟩:∃ s,bsL p3 32=s:=⟨_,rfl⟩
   obtain⟨e4,he4⟩:∃ s,bsL p4 32=s:=⟨_,rfl⟩
   obtain⟨kd,hkd⟩:∃ k,kdOf p2=k:=⟨_,rfl⟩
   rw[hkd]at hcv;have ck0:∀ w',Calls prog 49 #[.agg (tx (q0,p0,r0,.slice b0 n0 d0)).toArray,Z (32:Nat)] w' fun e w''=>e=.returned (.string e0)∧Below w'.heap.size w' w'':=fun w'=>by rw[← he0];exact rcut q0 p0 r0 b0 n0 d0 32 (by decide) w'
   have ck3:∀ w',Calls prog 49 #[.agg (tx (q3,p3,r3,.slice b3 n3' d3)).toArray,Z (32:Nat)] w' fun e w''=>e=.returned (.string e3)∧Below w'.heap.size w' w'':=fun w'=>by rw[← he3];exact rcut q3 p3 r3 b3 n3' d3 32 (by decide) w'
   have ck4:∀ w',Calls prog 49 #[.agg (tx (q4,p4,r4,.slice b4 n4 d4)).toArray,Z (32:Nat)] w' fun e w''=>e=.returned (.string e4)∧Below w'.heap.size w' w'':=fun w'=>by rw[← he4];exact rcut q4 p4 r4 b4 n4 d4 32 (by decide) w'
   have hal:alD (n:=n) (kz,uz,sz,[(q0,p0,r0,c0),(q1,p1,r1,c1),(q2,p2,r2,c2),(q3,p3,r3,c3),(q4,p4,r4,c4)])=(e0,p1,kd,if kd=0 then eB else e3,if kd=0 then eB else e4):=by rw[← hkd,← he0,← he3,← he4];rfl
   have htk:(zz.take (j+1)).map alD=L2++[(e0,p1,kd,if kd=0 then eB else e3,if kd=0 then eB else e4)]:=by rw[List.take_add_one,h2,List.map_append,hL2,← hal];rfl
   generalize smB p2=sm2 at hsm
   refine goT (T:=(fun w'=>QJ CA w 133 8 (.slice ad2 j cap2) X2 L2 K2 w'∧QJ CE w 47 2 (.slice ad i cap) X L K w')) [lS underlying48 (ad:=some ⟨gy,offy,none⟩) (n:=ny) (cap:=capy) rfl,klT j ny,iA 48 underlying48 (sz:=7) (by kernel_rfl) (g:=gy) (off:=offy) (n:=ny) (cap:=capy) (i:=j) hjl,ldA 48 (fun w' h=>lda w' (hTB w' h)),iA 48 underlying48 (sz:=7) (by kernel_rfl) (g:=gp) (off:=offp) (n:=5) (cap:=capp) (i:=2) (by decide),ldA 59 (fun w' h=>ld2 w' (hTB w' h)),cA func48 (fun w' _=>hsm w')] ((QJ.rs CA.loc _ _ _ _ _ _ _).both (QJ.rs CE.loc _ _ _ _ _ _ _)) (fun _ h=>h) I5 fun β6 a6 w6 I6 hb6=>?_
   refine dwB (T:=(fun w'=>QJ CA w 133 8 (.slice ad2 j cap2) X2 L2 K2 w'∧QJ CE w 47 2 (.slice ad i cap) X L K w')) 133 11 12 11 66 (al8 (eB,0,0,eB,eB)).toArray (al8 (e0,p1,kd,eB,eB)).toArray (.agg (al8 (e0,p1,kd,eB,eB)).toArray) rfl ze59 rfl (by kernel_rfl) (by kernel_rfl) (over8 _) [iA 48 underlying48 (sz:=7) (by kernel_rfl) (g:=gp) (off:=offp) (n:=5) (cap:=capp) (i:=0) (by decide),ldA 59 (fun w' h=>ld0 w' (hTB w' h)),cA func49 (fun w' _=>ck0 w'),iA 48 underlying48 (sz:=7) (by kernel_rfl) (g:=gp) (off:=offp) (n:=5) (cap:=capp) (i:=1) (by decide),ldA 57 (fun w' h=>ld1 w' (hTB w' h)),vO 23 3 (p:=B (l0 p2)) (v:=Z kd) hcv,dO 133 [0,1,2] (bd_a3 e0 p1 kd)] ((QJ.rs CA.loc _ _ _ _ _ _ _).both (QJ.rs CE.loc _ _ _ _ _ _ _)) (fun _ h=>h) I6 fun b7 vs7 β7 a7 w7 hag7 I7=>?_
   by_cases hk0:kd=0
   ·rw[if_pos hk0,if_pos hk0]at htk;refine goQ [bO .neq 3 (yk (x:=kd) (y:=0) (b:=false) (decide_eq_false (not_not_intro hk0)))] ((QJ.rs CA.loc _ _ _ _ _ _ _).both (QJ.rs CE.loc _ _ _ _ _ _ _)) I7 fun β8 a8 w8 I8 hb8=>?_;have I9:=I8.less (J':=fun w'=>(QJ CA w 133 8 (.slice ad2 j cap2) X2 L2 K2 w'∧MK CA noK (e0,p1,kd,eB,eB) (al8 (e0,p1,kd,eB,eB)) w')∧QJ CE w 47 2 (.slice ad i cap) X L K w') (F':=fun k=>(QF w (.slice ad2 j cap2) K2 k∨noK k)∨QF w (.slice ad i cap) K k) ⟨⟨I8.hJ.1,⟨fun k h=>h.elim,rfl,hpW⟩⟩,I8.hJ.2⟩ (fun k hk=>by
     rcases hk with(hk|hk)|hk
     ·exact .inl hk
     ·exact hk.elim
     ·exact .inr hk)
    refine zcn CA.loc underlying45 hI59 rfl (by decide) (by decide) (QJ.rs CE.loc _ _ _ _ _ _ _) (ev:=.agg (al8 (e0,p1,kd,eB,eB)).toArray) (bs_al (e0,p1,kd,eB,eB) w8) rfl (one8 (e0,p1,kd,eB,eB)) I9 hF2 hXj (by omega) (fun k h=>h.elim) fun ad8 cap8 a10 w10 hF8 I10=>?_;refine goQ [kaZ j 1 (j+1:Nat)] ((QJ.rs CA.loc _ _ _ _ _ _ _).both (QJ.rs CE.loc _ _ _ _ _ _ _)) I10 fun β11 a11 w11 I11 hb11=>?_
    obtain⟨u',Iu⟩:=I11.scr (yn Tryz.f50) (zg 91 xiK) (xiV (.agg (tx (kk,uu,ss,.slice (some ⟨ga,offa,none⟩) n3 cap3)).toArray) (.slice ad i cap) i (.slice (some ⟨gy,offy,none⟩) ny capy) (j+1)) [(0,(tx (kk,uu,ss,.slice (some ⟨ga,offa,none⟩) n3 cap3)).toArray),(1,#[.string sb,.slice ad8 (j+1) cap8])] 2;refine xc ⟨ny-(j+1),by omega,j+1,β11,u',ad8,cap8,X2++[al8 (e0,p1,kd,eB,eB)],(fun k=>K2 k∨noK k),rfl,hjl,by rw[List.length_append,hXj];rfl,hF8,fun k h=>h.elim (hKn k) fun h=>h.elim,?_⟩;rw[htk];exact Iu
   ·rw[if_neg hk0,if_neg hk0]at htk
    refine goT (T:=(fun w'=>QJ CA w 133 8 (.slice ad2 j cap2) X2 L2 K2 w'∧QJ CE w 47 2 (.slice ad i cap) X L K w')) [bO .neq 3 (yk (x:=kd) (y:=0) (b:=true) (decide_eq_true hk0)),iA 48 underlying48 (sz:=7) (by kernel_rfl) (g:=gp) (off:=offp) (n:=5) (cap:=capp) (i:=3) (by decide),ldA 59 (fun w' h=>ld3 w' (hTB w' h)),cA func49 (fun w' _=>ck3 w'),iA 48 underlying48 (sz:=7) (by kernel_rfl) (g:=gp) (off:=offp) (n:=5) (cap:=capp) (i:=4) (by decide),ldA 59 (fun w' h=>ld4 w' (hTB w' h)),cA func49 (fun w' _=>ck4 w')] ((QJ.rs CA.loc _ _ _ _ _ _ _).both (QJ.rs CE.loc _ _ _ _ _ _ _)) (fun _ h=>h) I7 fun β8 a8 w8 I8 hb8=>?_
    have I9:=I8.less (J':=fun w'=>(QJ CA w 133 8 (.slice ad2 j cap2) X2 L2 K2 w'∧MK CA noK (e0,p1,kd,e3,e4) (al8 (e0,p1,kd,e3,e4)) w')∧QJ CE w 47 2 (.slice ad i cap) X L K w') (F':=fun k=>(QF w (.slice ad2 j cap2) K2 k∨noK k)∨QF w (.slice ad i cap) K k) ⟨⟨I8.hJ.1,⟨fun k h=>h.elim,rfl,hpW⟩⟩,I8.hJ.2⟩ (fun k hk=>by
     rcases hk with(hk|hk)|hk
     ·exact .inl hk
     ·exact hk.elim
     ·exact .inr hk)
    refine zcn CA.loc underlying45 hI59 rfl (by decide) (by decide) (QJ.rs CE.loc _ _ _ _ _ _ _) (ev:=.agg (al8 (e0,p1,kd,e3,e4)).toArray) (bs_al (e0,p1,kd,e3,e4) w8) rfl (one8 (e0,p1,kd,e3,e4)) I9 hF2 hXj (by omega) (fun k h=>h.elim) fun ad8 cap8 a10 w10 hF8 I10=>?_;refine goQ [kaZ j 1 (j+1:Nat)] ((QJ.rs CA.loc _ _ _ _ _ _ _).both (QJ.rs CE.loc _ _ _ _ _ _ _)) I10 fun β11 a11 w11 I11 hb11=>?_
    obtain⟨u',Iu⟩:=I11.scr (yn Tryz.f50) (zg 91 xiK) (xiV (.agg (tx (kk,uu,ss,.slice (some ⟨ga,offa,none⟩) n3 cap3)).toArray) (.slice ad i cap) i (.slice (some ⟨gy,offy,none⟩) ny capy) (j+1)) [(0,(tx (kk,uu,ss,.slice (some ⟨ga,offa,none⟩) n3 cap3)).toArray),(1,#[.string sb,.slice ad8 (j+1) cap8])] 2;refine xc ⟨ny-(j+1),by omega,j+1,β11,u',ad8,cap8,X2++[al8 (e0,p1,kd,e3,e4)],(fun k=>K2 k∨noK k),rfl,hjl,by rw[List.length_append,hXj];rfl,hF8,fun k h=>h.elim (hKn k) fun h=>h.elim,?_⟩;rw[htk];exact Iu
  ·obtain rfl:j=ny:=by omega
   refine goQ [lS underlying48 (ad:=ady) (n:=j) (cap:=capy) rfl,bO .lss 3 (zf (x:=j) (y:=j) (b:=false) (by simp))] ((QJ.rs CA.loc _ _ _ _ _ _ _).both (QJ.rs CE.loc _ _ _ _ _ _ _)) I5 fun β6 a6 w6 I6 hb6=>?_;refine xg 2 ?_;refine goQ [] ((QJ.rs CA.loc _ _ _ _ _ _ _).both (QJ.rs CE.loc _ _ _ _ _ _ _)) (I6.exit _) fun β7 a7 w7 I7 hb7=>?_;rw[← hnye,List.take_length]at hL2;rw[hL2]at htk0;have hkb:=I7.hJ.1.kb2
   have I8:=I7.less (J':=fun w'=>QJ CE w 47 2 (.slice ad i cap) X L K w'∧MK CE (fun k=>K2 k∨(Value.slice ad2 j cap2).ownBlock=some k) (sb,L2) [.string sb,.slice ad2 j cap2] w') (F':=fun k=>QF w (.slice ad i cap) K k∨(K2 k∨(Value.slice ad2 j cap2).ownBlock=some k)) ⟨I7.hJ.2,⟨fun k hk=>(hkb k hk).2,_,rfl,I7.hJ.1.done CA.loc⟩⟩ (fun k hk=>by
    rcases hk with hk|hk|hk
    ·exact .inr hk
    ·exact .inl (.inr (.inr hk))
    ·exact .inl (.inr (.inl hk)))
   refine kh CE.loc underlying26 hI38 rfl (by decide) (by decide) (ev:=.agg #[.string sb,.slice ad2 j cap2]) (bs_ex (.string sb) (.slice ad2 j cap2) w7) rfl (one2 sb ad2 j cap2) I8 hXi (by omega) (fun k hk=>by
    refine⟨(hkb k hk).1,?_⟩;rcases hk with hk|hk
    ·exact absurd hk (hKn k)
    ·exact fun e=>hF2 k (.inr (.inl e)) hk) fun ad8 cap8 a9 w9 I9=>?_
   refine goQ [kaZ i 1 (i+1:Nat)] (QJ.rs CE.loc _ _ _ _ _ _ _) I9 fun β10 a10 w10 I10 hb10=>?_;obtain⟨u',Iu⟩:=I10.scr (zc Tryz.f50) (zg 91 xoK) (xoV (.agg (tx (kk,uu,ss,.slice (some ⟨ga,offa,none⟩) n3 cap3)).toArray) (.slice ad8 (i+1) cap8) (i+1)) [(0,(tx (kk,uu,ss,.slice (some ⟨ga,offa,none⟩) n3 cap3)).toArray)] 1;refine xc ⟨n3-(i+1),by omega,i+1,β10,u',ad8,cap8,X++[[.string sb,.slice ad2 j cap2]],(fun k=>K k∨(K2 k∨(Value.slice ad2 j cap2).ownBlock=some k)),rfl,hil,by rw[List.length_append,hXi];rfl,?_⟩;rw[htk0];exact Iu
 ·obtain rfl:i=n3:=by omega
  refine goQ [lS underlying48 (ad:=ad3) (n:=i) (cap:=cap3) rfl,bO .lss 3 (zf (x:=i) (y:=i) (b:=false) (by simp))] (QJ.rs CE.loc _ _ _ _ _ _ _) I3 fun β4 a4 w4 I4 hb4=>?_;refine xg 0 ?_;refine goQ [] (QJ.rs CE.loc _ _ _ _ _ _ _) (I4.exit _) fun β5 a5 w5 I5 hb5=>?_;rw[← hn3,List.take_length]at I5;have hle:(x.map exD).length=x.length:=List.length_map _;rw[hn3]at I5 hle;refine zh (v:=.slice ad i cap) I5 ⟨I5.hJ.below,ad,cap,_,by rw[hle],?_,I5.hJ.kb2,?_⟩
  ·rw[hle];exact I5.hJ.room hXi
  ·rw[hle];exact I5.hJ.done CE.loc
end Go.Proofs.YtdeompgdhaomgaaGreatDoor
