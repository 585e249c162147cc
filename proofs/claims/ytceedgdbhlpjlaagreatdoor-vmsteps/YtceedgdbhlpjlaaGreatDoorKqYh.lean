/- Out of Yh. -/
import Derived.Test.YtceedgdbhlpjlaaGreatDoorKqYf
namespace Go.Proofs.YtceedgdbhlpjlaaGreatDoor
open Go.RowKit Go.Sort Tryz
set_option linter.unusedVariables false
set_option maxRecDepth 100000
set_option maxHeartbeats 4000000
theorem nm_op:∀ n:Fin 256,kr n.val=(decide (nmN n.val≠[])&&decide (n.val≠254)):=by decide +kernel
theorem tk_bd:∀ n:Fin 256,(opP n.val).2.1≤20∧(opP n.val).2.2.1≤20∧(opP n.val).2.2.2≤1000:=by decide +kernel
theorem grow_er(m:List UInt8)(a n:Nat):(yh m a n).2.2=0∨(yh m a n).2.2=3:=by
 unfold yh;split
 ·exact .inl rfl
 ·split
  ·exact .inr rfl
  ·exact .inl rfl
theorem step_sd{f:Fr}(h:f.sd≠0):x9 f=f:=by unfold x9;rw[if_pos h]
theorem rstep_any(f:Fr)(hO:f.sd=0→OkR f)(ad:Option Addr)(cap:Nat)(hcp:f.st.length≤cap)(w:World)(hs:SkR w (.slice ad f.st.length cap) f.st):Calls prog 12 #[frV f (.slice ad f.st.length cap)] w fun e w'=>∃ x,e=.returned x∧FrW w ad f.st.length cap f.st (x9 f) x w':=by
 refine inZ func12 fun A I=>?_;by_cases hz:f.sd≠0
 ·rw[step_sd hz];refine goZ [bO .neq 3 (yz (x:=f.sd) (y:=0) (b:=true) (decide_eq_true hz))] I fun β1 A1 w1 I1 hb1=>?_;exact zp (v:=frV f (.slice ad f.st.length cap)) I1 ⟨_,rfl,.inr ⟨rfl,rfl,I1.hJ⟩⟩
 have hz0:f.sd=0:=Decidable.not_not.1 hz;have hO:=hO hz0;have hM:=zah;have hW:=M_W;have hdn:=fun q1 q2 q3 q4 w' (h':Below w.heap.size w w')=>rdn_any f hO hz0 q1 q2 q3 q4 ad cap hcp w' (hs.below h')
 have hst:∀ e,qg f=e→e≠0→x9 f=kp f e:=fun e he h0=>by rw[← he];exact zbn hz0 (by rw[he];exact h0)
 have hok:kr (opF f)=true→(opP (opF f)).2.1≤f.st.length→f.st.length-(opP (opF f)).2.1+(opP (opF f)).2.2.1≤256→(yh f.mem (yk (opF f) f.st).1 (yk (opF f) f.st).2).2.2=0→zac (opF f) f≤f.gas→x9 f=if jmpV (opF f) f.st=true∧dstV f.code (tp f.st 0)=false then kp f 20 else nexV f:=fun q1 q2 q3 q4 q5=>by
  have he:qg f=if jmpV (opF f) f.st=true∧dstV f.code (tp f.st 0)=false then 20 else 0:=by
   unfold qg;rw[if_neg (by rw[q1];simp),if_neg (by omega),if_neg (by rw[q4];simp),if_neg (by omega)]
  unfold x9;rw[if_neg hz,he];by_cases hj:jmpV (opF f) f.st=true∧dstV f.code (tp f.st 0)=false
  ·rw[if_pos hj,if_pos hj,if_neg (by decide)]
  ·rw[if_neg hj,if_neg hj,if_pos rfl]
 have h21:kr (opF f)=false→qg f=21:=fun q=>by unfold qg;rw[if_pos q]
 have h19:kr (opF f)=true→(f.st.length<(opP (opF f)).2.1∨256<f.st.length-(opP (opF f)).2.1+(opP (opF f)).2.2.1)→qg f=19:=fun q1 q2=>by unfold qg;rw[if_neg (by rw[q1];simp),if_pos q2]
 have h3:kr (opF f)=true→(opP (opF f)).2.1≤f.st.length→f.st.length-(opP (opF f)).2.1+(opP (opF f)).2.2.1≤256→(yh f.mem (yk (opF f) f.st).1 (yk (opF f) f.st).2).2.2≠0→qg f=3:=fun q1 q2 q3 q4=>by unfold qg;rw[if_neg (by rw[q1];simp),if_neg (by omega),if_pos q4]
 have h18:kr (opF f)=true→(opP (opF f)).2.1≤f.st.length→f.st.length-(opP (opF f)).2.1+(opP (opF f)).2.2.1≤256→(yh f.mem (yk (opF f) f.st).1 (yk (opF f) f.st).2).2.2=0→f.gas<zac (opF f) f→qg f=18:=fun q1 q2 q3 q4 q5=>by unfold qg;rw[if_neg (by rw[q1];simp),if_neg (by omega),if_neg (by rw[q4];simp),if_pos q5]
 have hnm:=nm_op ⟨opF f,zbv f⟩;have htb:=tk_bd ⟨opF f,zbv f⟩;simp only[]at hnm htb;have hnm1:nmN (opF f)=[]→kr (opF f)=false:=fun h=>by rw[hnm];simp[h]
 have hnm2:opF f=254→kr (opF f)=false:=fun h=>by rw[hnm];simp[h]
 have hnm3:nmN (opF f)≠[]→opF f≠254→kr (opF f)=true:=fun h h'=>by rw[hnm];simp[h,h']
 clear hnm;have hna:=rname_any (opF f) (zbv f);have htk:=qy (opF f) (zbv f);have hgs:=rgas_any (opF f) (zbv f);have ht0:=fun w' (h':Below w.heap.size w w')=>rtop_any f.st (.slice ad f.st.length cap) 0 (by decide) (by have:=hO.st;omega) w' (hs.below h')
 have ht1:=fun w' (h':Below w.heap.size w w')=>rtop_any f.st (.slice ad f.st.length cap) 1 (by decide) (by have:=hO.st;omega) w' (hs.below h')
 have ht2:=fun w' (h':Below w.heap.size w w')=>rtop_any f.st (.slice ad f.st.length cap) 2 (by decide) (by have:=hO.st;omega) w' (hs.below h')
 have hre:=rreach_any (opF f) (tp f.st 0) (tp f.st 1) (tp f.st 2) (zbv f);rw[← reaA_eq]at hre;have ha:=zcq hO.num 0;have hb:=zcq hO.num 1;have hc:=zcq hO.num 2;have hrW:(yk (opF f) f.st).1<W∧(yk (opF f) f.st).2<W:=by
  unfold yk;split
  ·exact⟨ha,hb⟩
  ·split
   ·exact⟨ha,hc⟩
   ·split
    ·exact⟨ha,by omega⟩
    ·split
     ·exact⟨ha,by omega⟩
     ·exact⟨by show(0:Nat)<W;omega,by show(0:Nat)<W;omega⟩
 have hgw:=rgrow_any f.mem (by have:=hO.mem;omega) (yk (opF f) f.st).1 (yk (opF f) f.st).2 hrW.1 hrW.2;have hgc:=zer f.mem (yk (opF f) f.st).1 (yk (opF f) f.st).2;have hge:=grow_er f.mem (yk (opF f) f.st).1 (yk (opF f) f.st).2;have hex:=fun(q:(yh f.mem (yk (opF f) f.st).1 (yk (opF f) f.st).2).2.2=0)=>rextra_any (opF f) (tp f.st 1) (yk (opF f) f.st).2 (zbv f) hb (fun hq=>(by
  rcases grow_ok q with q2|q2
  ·omega
  ·omega))
 have hxb:=fun(q:(yh f.mem (yk (opF f) f.st).1 (yk (opF f) f.st).2).2.2=0)=>ext_bd (op:=opF f) hO.num (fun h=>Nat.le_trans (small1 q (.inl h)) (by decide)) (fun h=>Nat.le_trans (small2 q h).1 (by decide))
 rw[← extA_eq]at hex;have hgv:zac (opF f) f=((opP (opF f)).2.2.2:Nat)+extV (opF f) f.st+(yh f.mem (yk (opF f) f.st).1 (yk (opF f) f.st).2).2.1:=rfl;have hpd:frV (pdF f) (.slice ad f.st.length cap)=.agg #[str f.code,str f.inp,.slice ad f.st.length cap,str (yh f.mem (yk (opF f) f.st).1 (yk (opF f) f.st).2).1,Z f.pc,Z (f.gas-zac (opF f) f),Z f.sd,Z f.er,str f.out]:=rfl;rw[hpd]at hdn;have hwr:=fun e:Int=>rwrong_any f ad f.st.length cap e
 have hp0:=hO.pc0;have hg0:=hO.gas0;have hg1:=hO.gas1;have hsl:=hO.st;have hopd:opF f=if f.pc<0 then 254 else match f.code[f.pc.toNat]? with
   | some b=>b.toNat
   | none=>0:=rfl
 obtain⟨pc,hpc⟩:∃ pc:Nat,f.pc=pc:=⟨f.pc.toNat,by omega⟩
 rw[if_neg (by omega),hpc,Int.toNat_natCast]at hopd;generalize zac (opF f) f=gv,yh f.mem (yk (opF f) f.st).1 (yk (opF f) f.st).2=gr at *;obtain⟨gm,gc,ge⟩:=gr;simp only[]at *;generalize yk (opF f) f.st=re at *;obtain⟨rx,rn⟩:=re;simp only[]at *;generalize hnw:(if jmpV (opF f) f.st=true∧dstV f.code (tp f.st 0)=false then kp f 20 else nexV f)=nw at *;clear hnw hpd hrW;generalize opF f=op at *;generalize extV op f.st=ex at *;unfold U at ht0 ht1 ht2 hre hgw hex hdn
 generalize l0 (tp f.st 0)=a0,l1 (tp f.st 0)=a1,l2 (tp f.st 0)=a2,l3 (tp f.st 0)=a3,l0 (tp f.st 1)=b0,l1 (tp f.st 1)=b1,l2 (tp f.st 1)=b2,l3 (tp f.st 1)=b3,l0 (tp f.st 2)=c0,l1 (tp f.st 2)=c1,l2 (tp f.st 2)=c2,l3 (tp f.st 2)=c3,l0 rx=x0,l1 rx=x1,l2 rx=x2,l3 rx=x3,l0 rn=n0,l1 rn=n1,l2 rn=n2,l3 rn=n3,(opP op).2.1=ti,(opP op).2.2.1=tz,(opP op).2.2.2=gs at *;obtain⟨htb1,htb2,htb3⟩:=htb;rcases Nat.lt_or_ge pc f.code.length with hlt|hlt
 ·obtain⟨ch,hch⟩:∃ ch,f.code[pc]? = some ch:=⟨_,List.getElem?_eq_getElem hlt⟩
  rw[hch]at hopd;simp only[]at hopd;have hix:=fun w=>zdr hch w
  rw[← hopd,← hpc]at hix;by_cases hn:nmN op=[]
  ·have hq:kr op=false:=hnm1 hn;rw[hst 21 (h21 hq) (by decide)];refine goT (T:=Below w.heap.size w) [bO .neq 3 (yz (x:=f.sd) (y:=0) (b:=false) (decide_eq_false hz)),khT f.pc 0,lnO f.code,klT f.pc f.code.length,iO 9 hix,kC func17 hna,bO .eql 9 (xm (a:=nmN op) (b:=[]) (q:=true) (decide_eq_true hn)),kC func22 (hwr 21)] (zq w) (fun _ h=>h) I fun β1 A1 w1 I1 hb1=>?_;exact zp (v:=frV (kp f 21) (.slice ad f.st.length cap)) I1 ⟨_,rfl,.inr ⟨rfl,rfl,I1.hJ⟩⟩
  by_cases h254:op=254
  ·have hq:kr op=false:=hnm2 h254;rw[hst 21 (h21 hq) (by decide)];refine goT (T:=Below w.heap.size w) [bO .neq 3 (yz (x:=f.sd) (y:=0) (b:=false) (decide_eq_false hz)),khT f.pc 0,lnO f.code,klT f.pc f.code.length,iO 9 hix,kC func17 hna,bO .eql 9 (xm (a:=nmN op) (b:=[]) (q:=false) (decide_eq_false hn)),eqF op 254 h254,kC func22 (hwr 21)] (zq w) (fun _ h=>h) I fun β1 A1 w1 I1 hb1=>?_;exact zp (v:=frV (kp f 21) (.slice ad f.st.length cap)) I1 ⟨_,rfl,.inr ⟨rfl,rfl,I1.hJ⟩⟩
  have hq:kr op=true:=hnm3 hn h254;by_cases k1:f.st.length<ti
  ·skip
   rw[hst 19 (h19 hq (.inl k1)) (by decide)];refine goT (T:=Below w.heap.size w) [bO .neq 3 (yz (x:=f.sd) (y:=0) (b:=false) (decide_eq_false hz)),khT f.pc 0,lnO f.code,klT f.pc f.code.length,iO 9 hix,kC func17 hna,bO .eql 9 (xm (a:=nmN op) (b:=[]) (q:=false) (decide_eq_false hn)),neF op 254 h254,kC func23 htk,lSk ad f.st.length cap,kgT ti f.st.length,kC func22 (hwr 19)] (zq w) (fun _ h=>h) I fun β1 A1 w1 I1 hb1=>?_;exact zp (v:=frV (kp f 19) (.slice ad f.st.length cap)) I1 ⟨_,rfl,.inr ⟨rfl,rfl,I1.hJ⟩⟩
  by_cases k2:256<f.st.length-ti+tz
  ·skip
   rw[hst 19 (h19 hq (.inr k2)) (by decide)];refine goT (T:=Below w.heap.size w) [bO .neq 3 (yz (x:=f.sd) (y:=0) (b:=false) (decide_eq_false hz)),khT f.pc 0,lnO f.code,klT f.pc f.code.length,iO 9 hix,kC func17 hna,bO .eql 9 (xm (a:=nmN op) (b:=[]) (q:=false) (decide_eq_false hn)),neF op 254 h254,kC func23 htk,lSk ad f.st.length cap,kgF ti f.st.length,lSk ad f.st.length cap,ksZ f.st.length ti (f.st.length-ti:Nat),kaZ (f.st.length-ti:Nat) tz (f.st.length-ti+tz:Nat),kgT (f.st.length-ti+tz:Nat) 256,kC func22 (hwr 19)] (zq w) (fun _ h=>h) I fun β1 A1 w1 I1 hb1=>?_
   exact zp (v:=frV (kp f 19) (.slice ad f.st.length cap)) I1 ⟨_,rfl,.inr ⟨rfl,rfl,I1.hJ⟩⟩
  by_cases k3:ge≠0
  ·skip
   rw[hst 3 (h3 hq (by omega) (by omega) k3) (by decide)]
   refine goT (T:=Below w.heap.size w) [bO .neq 3 (yz (x:=f.sd) (y:=0) (b:=false) (decide_eq_false hz)),khT f.pc 0,lnO f.code,klT f.pc f.code.length,iO 9 hix,kC func17 hna,bO .eql 9 (xm (a:=nmN op) (b:=[]) (q:=false) (decide_eq_false hn)),neF op 254 h254,kC func23 htk,lSk ad f.st.length cap,kgF ti f.st.length,lSk ad f.st.length cap,ksZ f.st.length ti (f.st.length-ti:Nat),kaZ (f.st.length-ti:Nat) tz (f.st.length-ti+tz:Nat),kgF (f.st.length-ti+tz:Nat) 256,cA func24 ht0,cA func24 ht1,cA func24 ht2,kC func25 hre,kC func26 hgw,bO .neq 3 (yz (x:=ge) (y:=0) (b:=true) (decide_eq_true k3)),kC func22 (hwr 3)] (zq w) (fun _ h=>h) I fun β1 A1 w1 I1 hb1=>?_
   exact zp (v:=frV (kp f 3) (.slice ad f.st.length cap)) I1 ⟨_,rfl,.inr ⟨rfl,rfl,I1.hJ⟩⟩
  have k3:ge=0:=Decidable.not_not.1 k3;have hex:=hex k3;have hxb:=hxb k3
  refine goT (T:=Below w.heap.size w) [bO .neq 3 (yz (x:=f.sd) (y:=0) (b:=false) (decide_eq_false hz)),khT f.pc 0,lnO f.code,klT f.pc f.code.length,iO 9 hix,kC func17 hna,bO .eql 9 (xm (a:=nmN op) (b:=[]) (q:=false) (decide_eq_false hn)),neF op 254 h254,kC func23 htk,lSk ad f.st.length cap,kgF ti f.st.length,lSk ad f.st.length cap,ksZ f.st.length ti (f.st.length-ti:Nat),kaZ (f.st.length-ti:Nat) tz (f.st.length-ti+tz:Nat),kgF (f.st.length-ti+tz:Nat) 256,cA func24 ht0,cA func24 ht1,cA func24 ht2,kC func25 hre,kC func26 hgw,knF ge 0] (zq w) (fun _ h=>h) I fun β1 A1 w1 I1 hb1=>?_
  refine dwQ 9 [kC func27 hgs,kaZ gs gc (gs+gc),kC func28 hex,kaZ (gs+gc) ex gv] (zq w) yg.post I1 fun A2 w2 I2=>?_;by_cases k4:f.gas<gv
  ·skip
   rw[hst 18 (h18 hq (by omega) (by omega) k3 k4) (by decide)];refine goT (T:=Below w.heap.size w) [kgT gv f.gas,kC func22 (hwr 18)] (zq w) (fun _ h=>h) I2 fun β3 A3 w3 I3 hb3=>?_;exact zp (v:=frV (kp f 18) (.slice ad f.st.length cap)) I3 ⟨_,rfl,.inr ⟨rfl,rfl,I3.hJ⟩⟩
  rw[hok hq (by omega) (by omega) k3 (by omega)];refine goT (T:=Below w.heap.size w) [kgF gv f.gas,ksZ f.gas gv (f.gas-gv)] (zq w) (fun _ h=>h) I2 fun β3 A3 w3 I3 hb3=>?_;refine qx [Sum.inl (.agg #[str f.code,str f.inp,.slice ad f.st.length cap,str gm,Z f.pc,Z (f.gas-gv),Z f.sd,Z f.er,str f.out]),Sum.inl (frV f (.slice ad f.st.length cap)),Sum.inl (b8 op),Sum.inl (U4 a0 a1 a2 a3),Sum.inl (U4 b0 b1 b2 b3),Sum.inl (U4 c0 c1 c2 c3)] func29 I3 ((hdn hq (by omega) k3 (by omega) w3 I3.hJ).mono fun e w4 he=>?_);obtain⟨_,rfl,he⟩:=he;have hw3:=I3.hJ
  rcases he with⟨ad4,cap4,rfl,ho4,hb4⟩|⟨q1,rfl,hb4⟩
  ·have I4:SI (SkJ w (.slice ad4 nw.st.length cap4) nw.st) (SkF w (.slice ad4 nw.st.length cap4)) [] β3 _ _ w4:=I3.moved (zu.of_below hb4) ⟨hw3.trans (hb4.mono hw3.size),zb9 ho4 hw3.size⟩ (fun k hk h=>by
    rcases h with h|h
    ·exact h
    ·have:=(ho4.lt k h).1;omega) (frV nw (.slice ad4 nw.st.length cap4))
   refine goQ [] (SkJ.rs _ _ _) I4 fun β5 A5 w5 I5 hb5=>?_;exact zp (v:=frV nw (.slice ad4 nw.st.length cap4)) I5 ⟨_,rfl,.inl (SkJ.fro (f:=nw) I5.hJ rfl)⟩
  ·have I4:=I3.moved (J':=Below w.heap.size w) (F':=(· < w.heap.size)) (zu.of_below hb4) (hw3.trans (hb4.mono hw3.size)) (fun _ _ h=>h) (frV nw (.slice ad f.st.length cap));refine goZ [] I4 fun β5 A5 w5 I5 hb5=>?_;exact zp (v:=frV nw (.slice ad f.st.length cap)) I5 ⟨_,rfl,.inr ⟨q1,rfl,I5.hJ⟩⟩
 ·rw[List.getElem?_eq_none hlt]at hopd;simp only[]at hopd;subst hopd;by_cases hn:nmN 0=[]
  ·have hq:kr 0=false:=hnm1 hn;rw[hst 21 (h21 hq) (by decide)];refine goT (T:=Below w.heap.size w) [bO .neq 3 (yz (x:=f.sd) (y:=0) (b:=false) (decide_eq_false hz)),khT f.pc 0,lnO f.code,klF f.pc f.code.length,kC func17 hna,bO .eql 9 (xm (a:=nmN 0) (b:=[]) (q:=true) (decide_eq_true hn)),kC func22 (hwr 21)] (zq w) (fun _ h=>h) I fun β1 A1 w1 I1 hb1=>?_;exact zp (v:=frV (kp f 21) (.slice ad f.st.length cap)) I1 ⟨_,rfl,.inr ⟨rfl,rfl,I1.hJ⟩⟩
  by_cases h254:0=254
  ·have hq:kr 0=false:=hnm2 h254;rw[hst 21 (h21 hq) (by decide)];refine goT (T:=Below w.heap.size w) [bO .neq 3 (yz (x:=f.sd) (y:=0) (b:=false) (decide_eq_false hz)),khT f.pc 0,lnO f.code,klF f.pc f.code.length,kC func17 hna,bO .eql 9 (xm (a:=nmN 0) (b:=[]) (q:=false) (decide_eq_false hn)),eqF 0 254 h254,kC func22 (hwr 21)] (zq w) (fun _ h=>h) I fun β1 A1 w1 I1 hb1=>?_;exact zp (v:=frV (kp f 21) (.slice ad f.st.length cap)) I1 ⟨_,rfl,.inr ⟨rfl,rfl,I1.hJ⟩⟩
  have hq:kr 0=true:=hnm3 hn h254;by_cases k1:f.st.length<ti
  ·skip
   rw[hst 19 (h19 hq (.inl k1)) (by decide)];refine goT (T:=Below w.heap.size w) [bO .neq 3 (yz (x:=f.sd) (y:=0) (b:=false) (decide_eq_false hz)),khT f.pc 0,lnO f.code,klF f.pc f.code.length,kC func17 hna,bO .eql 9 (xm (a:=nmN 0) (b:=[]) (q:=false) (decide_eq_false hn)),neF 0 254 h254,kC func23 htk,lSk ad f.st.length cap,kgT ti f.st.length,kC func22 (hwr 19)] (zq w) (fun _ h=>h) I fun β1 A1 w1 I1 hb1=>?_;exact zp (v:=frV (kp f 19) (.slice ad f.st.length cap)) I1 ⟨_,rfl,.inr ⟨rfl,rfl,I1.hJ⟩⟩
  by_cases k2:256<f.st.length-ti+tz
  ·skip
   rw[hst 19 (h19 hq (.inr k2)) (by decide)];refine goT (T:=Below w.heap.size w) [bO .neq 3 (yz (x:=f.sd) (y:=0) (b:=false) (decide_eq_false hz)),khT f.pc 0,lnO f.code,klF f.pc f.code.length,kC func17 hna,bO .eql 9 (xm (a:=nmN 0) (b:=[]) (q:=false) (decide_eq_false hn)),neF 0 254 h254,kC func23 htk,lSk ad f.st.length cap,kgF ti f.st.length,lSk ad f.st.length cap,ksZ f.st.length ti (f.st.length-ti:Nat),kaZ (f.st.length-ti:Nat) tz (f.st.length-ti+tz:Nat),kgT (f.st.length-ti+tz:Nat) 256,kC func22 (hwr 19)] (zq w) (fun _ h=>h) I fun β1 A1 w1 I1 hb1=>?_
   exact zp (v:=frV (kp f 19) (.slice ad f.st.length cap)) I1 ⟨_,rfl,.inr ⟨rfl,rfl,I1.hJ⟩⟩
  by_cases k3:ge≠0
  ·skip
   rw[hst 3 (h3 hq (by omega) (by omega) k3) (by decide)]
   refine goT (T:=Below w.heap.size w) [bO .neq 3 (yz (x:=f.sd) (y:=0) (b:=false) (decide_eq_false hz)),khT f.pc 0,lnO f.code,klF f.pc f.code.length,kC func17 hna,bO .eql 9 (xm (a:=nmN 0) (b:=[]) (q:=false) (decide_eq_false hn)),neF 0 254 h254,kC func23 htk,lSk ad f.st.length cap,kgF ti f.st.length,lSk ad f.st.length cap,ksZ f.st.length ti (f.st.length-ti:Nat),kaZ (f.st.length-ti:Nat) tz (f.st.length-ti+tz:Nat),kgF (f.st.length-ti+tz:Nat) 256,cA func24 ht0,cA func24 ht1,cA func24 ht2,kC func25 hre,kC func26 hgw,bO .neq 3 (yz (x:=ge) (y:=0) (b:=true) (decide_eq_true k3)),kC func22 (hwr 3)] (zq w) (fun _ h=>h) I fun β1 A1 w1 I1 hb1=>?_
   exact zp (v:=frV (kp f 3) (.slice ad f.st.length cap)) I1 ⟨_,rfl,.inr ⟨rfl,rfl,I1.hJ⟩⟩
  have k3:ge=0:=Decidable.not_not.1 k3;have hex:=hex k3;have hxb:=hxb k3
  refine goT (T:=Below w.heap.size w) [bO .neq 3 (yz (x:=f.sd) (y:=0) (b:=false) (decide_eq_false hz)),khT f.pc 0,lnO f.code,klF f.pc f.code.length,kC func17 hna,bO .eql 9 (xm (a:=nmN 0) (b:=[]) (q:=false) (decide_eq_false hn)),neF 0 254 h254,kC func23 htk,lSk ad f.st.length cap,kgF ti f.st.length,lSk ad f.st.length cap,ksZ f.st.length ti (f.st.length-ti:Nat),kaZ (f.st.length-ti:Nat) tz (f.st.length-ti+tz:Nat),kgF (f.st.length-ti+tz:Nat) 256,cA func24 ht0,cA func24 ht1,cA func24 ht2,kC func25 hre,kC func26 hgw,knF ge 0] (zq w) (fun _ h=>h) I fun β1 A1 w1 I1 hb1=>?_
  refine dwQ 9 [kC func27 hgs,kaZ gs gc (gs+gc),kC func28 hex,kaZ (gs+gc) ex gv] (zq w) yg.post I1 fun A2 w2 I2=>?_;by_cases k4:f.gas<gv
  ·skip
   rw[hst 18 (h18 hq (by omega) (by omega) k3 k4) (by decide)];refine goT (T:=Below w.heap.size w) [kgT gv f.gas,kC func22 (hwr 18)] (zq w) (fun _ h=>h) I2 fun β3 A3 w3 I3 hb3=>?_;exact zp (v:=frV (kp f 18) (.slice ad f.st.length cap)) I3 ⟨_,rfl,.inr ⟨rfl,rfl,I3.hJ⟩⟩
  rw[hok hq (by omega) (by omega) k3 (by omega)];refine goT (T:=Below w.heap.size w) [kgF gv f.gas,ksZ f.gas gv (f.gas-gv)] (zq w) (fun _ h=>h) I2 fun β3 A3 w3 I3 hb3=>?_;refine qx [Sum.inl (.agg #[str f.code,str f.inp,.slice ad f.st.length cap,str gm,Z f.pc,Z (f.gas-gv),Z f.sd,Z f.er,str f.out]),Sum.inl (frV f (.slice ad f.st.length cap)),Sum.inl (b8 0),Sum.inl (U4 a0 a1 a2 a3),Sum.inl (U4 b0 b1 b2 b3),Sum.inl (U4 c0 c1 c2 c3)] func29 I3 ((hdn hq (by omega) k3 (by omega) w3 I3.hJ).mono fun e w4 he=>?_);obtain⟨_,rfl,he⟩:=he;have hw3:=I3.hJ
  rcases he with⟨ad4,cap4,rfl,ho4,hb4⟩|⟨q1,rfl,hb4⟩
  ·have I4:SI (SkJ w (.slice ad4 nw.st.length cap4) nw.st) (SkF w (.slice ad4 nw.st.length cap4)) [] β3 _ _ w4:=I3.moved (zu.of_below hb4) ⟨hw3.trans (hb4.mono hw3.size),zb9 ho4 hw3.size⟩ (fun k hk h=>by
    rcases h with h|h
    ·exact h
    ·have:=(ho4.lt k h).1;omega) (frV nw (.slice ad4 nw.st.length cap4))
   refine goQ [] (SkJ.rs _ _ _) I4 fun β5 A5 w5 I5 hb5=>?_;exact zp (v:=frV nw (.slice ad4 nw.st.length cap4)) I5 ⟨_,rfl,.inl (SkJ.fro (f:=nw) I5.hJ rfl)⟩
  ·have I4:=I3.moved (J':=Below w.heap.size w) (F':=(· < w.heap.size)) (zu.of_below hb4) (hw3.trans (hb4.mono hw3.size)) (fun _ _ h=>h) (frV nw (.slice ad f.st.length cap));refine goZ [] I4 fun β5 A5 w5 I5 hb5=>?_;exact zp (v:=frV nw (.slice ad f.st.length cap)) I5 ⟨_,rfl,.inr ⟨q1,rfl,I5.hJ⟩⟩
end Go.Proofs.YtceedgdbhlpjlaaGreatDoor
