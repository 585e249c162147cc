/- Laid one behind the other: Yh, Yi, Vz. -/
import Derived.Test.YtceedgdbhlpjlaaGreatDoorKuYf
namespace Go.Proofs.YtceedgdbhlpjlaaGreatDoor
open Go.RowKit Go.Sort Tryz
set_option linter.unusedVariables false
set_option maxRecDepth 100000
set_option maxHeartbeats 4000000
theorem nm_op:∀ n:Fin 256,isOp n.val=(decide (nmN n.val≠[])&&decide (n.val≠254)):=by decide +kernel
theorem tk_bd:∀ n:Fin 256,(opP n.val).2.1≤20∧(opP n.val).2.2.1≤20∧(opP n.val).2.2.2≤1000:=by decide +kernel
theorem grow_er(m:List UInt8)(a n:Nat):(growV m a n).2.2=0∨(growV m a n).2.2=3:=by
 unfold growV;split
 ·exact .inl rfl
 ·split
  ·exact .inr rfl
  ·exact .inl rfl
theorem step_sd{f:Fr}(h:f.sd≠0):stepV f=f:=by unfold stepV;rw[if_pos h]
theorem rstep_any(f:Fr)(hO:f.sd=0→OkR f)(ad:Option Addr)(cap:Nat)(hcp:f.st.length≤cap)(w:World)(hs:SkR w (.slice ad f.st.length cap) f.st):Calls prog 12 #[frV f (.slice ad f.st.length cap)] w fun e w'=>∃ x,e=.returned x∧FrW w ad f.st.length cap f.st (stepV f) x w':=by
 refine inZ func12 fun A I=>?_;by_cases hz:f.sd≠0
 ·rw[step_sd hz];refine goZ [bO .neq 3 (run_neqZ (x:=f.sd) (y:=0) (b:=true) (decide_eq_true hz))] I fun β1 A1 w1 I1 hb1=>?_;exact outQ (v:=frV f (.slice ad f.st.length cap)) I1 ⟨_,rfl,.inr ⟨rfl,rfl,I1.hJ⟩⟩
 have hz0:f.sd=0:=Decidable.not_not.1 hz;have hO:=hO hz0;have hM:=M_big;have hW:=M_W;have hdn:=fun q1 q2 q3 q4 w' (h':Below w.heap.size w w')=>rdn_any f hO hz0 q1 q2 q3 q4 ad cap hcp w' (hs.below h')
 have hst:∀ e,errV f=e→e≠0→stepV f=wrgV f e:=fun e he h0=>by rw[← he];exact stepV_bad hz0 (by rw[he];exact h0)
 have hok:isOp (opF f)=true→(opP (opF f)).2.1≤f.st.length→f.st.length-(opP (opF f)).2.1+(opP (opF f)).2.2.1≤256→(growV f.mem (reaV (opF f) f.st).1 (reaV (opF f) f.st).2).2.2=0→gasV (opF f) f≤f.gas→stepV f=if jmpV (opF f) f.st=true∧dstV f.code (tp f.st 0)=false then wrgV f 20 else nexV f:=fun q1 q2 q3 q4 q5=>by
  have he:errV f=if jmpV (opF f) f.st=true∧dstV f.code (tp f.st 0)=false then 20 else 0:=by
   unfold errV;rw[if_neg (by rw[q1];simp),if_neg (by omega),if_neg (by rw[q4];simp),if_neg (by omega)]
  unfold stepV;rw[if_neg hz,he];by_cases hj:jmpV (opF f) f.st=true∧dstV f.code (tp f.st 0)=false
  ·rw[if_pos hj,if_pos hj,if_neg (by decide)]
  ·rw[if_neg hj,if_neg hj,if_pos rfl]
 have h21:isOp (opF f)=false→errV f=21:=fun q=>by unfold errV;rw[if_pos q]
 have h19:isOp (opF f)=true→(f.st.length<(opP (opF f)).2.1∨256<f.st.length-(opP (opF f)).2.1+(opP (opF f)).2.2.1)→errV f=19:=fun q1 q2=>by unfold errV;rw[if_neg (by rw[q1];simp),if_pos q2]
 have h3:isOp (opF f)=true→(opP (opF f)).2.1≤f.st.length→f.st.length-(opP (opF f)).2.1+(opP (opF f)).2.2.1≤256→(growV f.mem (reaV (opF f) f.st).1 (reaV (opF f) f.st).2).2.2≠0→errV f=3:=fun q1 q2 q3 q4=>by unfold errV;rw[if_neg (by rw[q1];simp),if_neg (by omega),if_pos q4]
 have h18:isOp (opF f)=true→(opP (opF f)).2.1≤f.st.length→f.st.length-(opP (opF f)).2.1+(opP (opF f)).2.2.1≤256→(growV f.mem (reaV (opF f) f.st).1 (reaV (opF f) f.st).2).2.2=0→f.gas<gasV (opF f) f→errV f=18:=fun q1 q2 q3 q4 q5=>by unfold errV;rw[if_neg (by rw[q1];simp),if_neg (by omega),if_neg (by rw[q4];simp),if_pos q5]
 have hnm:=nm_op ⟨opF f,opF_lt f⟩;have htb:=tk_bd ⟨opF f,opF_lt f⟩;simp only[]at hnm htb;have hnm1:nmN (opF f)=[]→isOp (opF f)=false:=fun h=>by rw[hnm];simp[h]
 have hnm2:opF f=254→isOp (opF f)=false:=fun h=>by rw[hnm];simp[h]
 have hnm3:nmN (opF f)≠[]→opF f≠254→isOp (opF f)=true:=fun h h'=>by rw[hnm];simp[h,h']
 clear hnm;have hna:=rname_any (opF f) (opF_lt f);have htk:=rtakes_any (opF f) (opF_lt f);have hgs:=rgas_any (opF f) (opF_lt f);have ht0:=fun w' (h':Below w.heap.size w w')=>rtop_any f.st (.slice ad f.st.length cap) 0 (by decide) (by have:=hO.st;omega) w' (hs.below h')
 have ht1:=fun w' (h':Below w.heap.size w w')=>rtop_any f.st (.slice ad f.st.length cap) 1 (by decide) (by have:=hO.st;omega) w' (hs.below h')
 have ht2:=fun w' (h':Below w.heap.size w w')=>rtop_any f.st (.slice ad f.st.length cap) 2 (by decide) (by have:=hO.st;omega) w' (hs.below h')
 have hre:=rreach_any (opF f) (tp f.st 0) (tp f.st 1) (tp f.st 2) (opF_lt f);rw[← reaA_eq]at hre;have ha:=tp_lt hO.num 0;have hb:=tp_lt hO.num 1;have hc:=tp_lt hO.num 2;have hrW:(reaV (opF f) f.st).1<W∧(reaV (opF f) f.st).2<W:=by
  unfold reaV;split
  ·exact⟨ha,hb⟩
  ·split
   ·exact⟨ha,hc⟩
   ·split
    ·exact⟨ha,by omega⟩
    ·split
     ·exact⟨ha,by omega⟩
     ·exact⟨by show(0:Nat)<W;omega,by show(0:Nat)<W;omega⟩
 have hgw:=rgrow_any f.mem (by have:=hO.mem;omega) (reaV (opF f) f.st).1 (reaV (opF f) f.st).2 hrW.1 hrW.2;have hgc:=grow_cost f.mem (reaV (opF f) f.st).1 (reaV (opF f) f.st).2;have hge:=grow_er f.mem (reaV (opF f) f.st).1 (reaV (opF f) f.st).2;have hex:=fun(q:(growV f.mem (reaV (opF f) f.st).1 (reaV (opF f) f.st).2).2.2=0)=>rextra_any (opF f) (tp f.st 1) (reaV (opF f) f.st).2 (opF_lt f) hb (fun hq=>(by
  rcases grow_ok q with q2|q2
  ·omega
  ·omega))
 have hxb:=fun(q:(growV f.mem (reaV (opF f) f.st).1 (reaV (opF f) f.st).2).2.2=0)=>ext_bd (op:=opF f) hO.num (fun h=>Nat.le_trans (small1 q (.inl h)) (by decide)) (fun h=>Nat.le_trans (small2 q h).1 (by decide))
 rw[← extA_eq]at hex;have hgv:gasV (opF f) f=((opP (opF f)).2.2.2:Nat)+extV (opF f) f.st+(growV f.mem (reaV (opF f) f.st).1 (reaV (opF f) f.st).2).2.1:=rfl;have hpd:frV (pdF f) (.slice ad f.st.length cap)=.agg #[str f.code,str f.inp,.slice ad f.st.length cap,str (growV f.mem (reaV (opF f) f.st).1 (reaV (opF f) f.st).2).1,Z f.pc,Z (f.gas-gasV (opF f) f),Z f.sd,Z f.er,str f.out]:=rfl;rw[hpd]at hdn;have hwr:=fun e:Int=>rwrong_any f ad f.st.length cap e
 have hp0:=hO.pc0;have hg0:=hO.gas0;have hg1:=hO.gas1;have hsl:=hO.st;have hopd:opF f=if f.pc<0 then 254 else match f.code[f.pc.toNat]? with
   | some b=>b.toNat
   | none=>0:=rfl
 obtain⟨pc,hpc⟩:∃ pc:Nat,f.pc=pc:=⟨f.pc.toNat,by omega⟩
 rw[if_neg (by omega),hpc,Int.toNat_natCast]at hopd;generalize gasV (opF f) f=gv,growV f.mem (reaV (opF f) f.st).1 (reaV (opF f) f.st).2=gr at *;obtain⟨gm,gc,ge⟩:=gr;simp only[]at *;generalize reaV (opF f) f.st=re at *;obtain⟨rx,rn⟩:=re;simp only[]at *;generalize hnw:(if jmpV (opF f) f.st=true∧dstV f.code (tp f.st 0)=false then wrgV f 20 else nexV f)=nw at *;clear hnw hpd hrW;generalize opF f=op at *;generalize extV op f.st=ex at *;unfold U at ht0 ht1 ht2 hre hgw hex hdn
 generalize l0 (tp f.st 0)=a0,l1 (tp f.st 0)=a1,l2 (tp f.st 0)=a2,l3 (tp f.st 0)=a3,l0 (tp f.st 1)=b0,l1 (tp f.st 1)=b1,l2 (tp f.st 1)=b2,l3 (tp f.st 1)=b3,l0 (tp f.st 2)=c0,l1 (tp f.st 2)=c1,l2 (tp f.st 2)=c2,l3 (tp f.st 2)=c3,l0 rx=x0,l1 rx=x1,l2 rx=x2,l3 rx=x3,l0 rn=n0,l1 rn=n1,l2 rn=n2,l3 rn=n3,(opP op).2.1=ti,(opP op).2.2.1=tz,(opP op).2.2.2=gs at *;obtain⟨htb1,htb2,htb3⟩:=htb;rcases Nat.lt_or_ge pc f.code.length with hlt|hlt
 ·obtain⟨ch,hch⟩:∃ ch,f.code[pc]? = some ch:=⟨_,List.getElem?_eq_getElem hlt⟩
  rw[hch]at hopd;simp only[]at hopd;have hix:=fun w=>idx_run hch w
  rw[← hopd,← hpc]at hix;by_cases hn:nmN op=[]
  ·have hq:isOp op=false:=hnm1 hn;rw[hst 21 (h21 hq) (by decide)];refine goT (T:=Below w.heap.size w) [bO .neq 3 (run_neqZ (x:=f.sd) (y:=0) (b:=false) (decide_eq_false hz)),bO .geq 3 (run_geqZ (x:=f.pc) (y:=0) (b:=true) (decide_eq_true (by omega))),lnO f.code,bO .lss 3 (run_lssZ (x:=f.pc) (y:=f.code.length) (b:=true) (decide_eq_true (by omega))),iO 9 hix,kC func17 hna,bO .eql 9 (eqS_run (a:=nmN op) (b:=[]) (q:=true) (decide_eq_true hn)),kC func22 (hwr 21)] (nonR w) (fun _ h=>h) I fun β1 A1 w1 I1 hb1=>?_
   exact outQ (v:=frV (wrgV f 21) (.slice ad f.st.length cap)) I1 ⟨_,rfl,.inr ⟨rfl,rfl,I1.hJ⟩⟩
  by_cases h254:op=254
  ·have hq:isOp op=false:=hnm2 h254;rw[hst 21 (h21 hq) (by decide)];refine goT (T:=Below w.heap.size w) [bO .neq 3 (run_neqZ (x:=f.sd) (y:=0) (b:=false) (decide_eq_false hz)),bO .geq 3 (run_geqZ (x:=f.pc) (y:=0) (b:=true) (decide_eq_true (by omega))),lnO f.code,bO .lss 3 (run_lssZ (x:=f.pc) (y:=f.code.length) (b:=true) (decide_eq_true (by omega))),iO 9 hix,kC func17 hna,bO .eql 9 (eqS_run (a:=nmN op) (b:=[]) (q:=false) (decide_eq_false hn)),eqF op 254 h254,kC func22 (hwr 21)] (nonR w) (fun _ h=>h) I fun β1 A1 w1 I1 hb1=>?_
   exact outQ (v:=frV (wrgV f 21) (.slice ad f.st.length cap)) I1 ⟨_,rfl,.inr ⟨rfl,rfl,I1.hJ⟩⟩
  have hq:isOp op=true:=hnm3 hn h254;by_cases k1:f.st.length<ti
  ·skip
   rw[hst 19 (h19 hq (.inl k1)) (by decide)]
   refine goT (T:=Below w.heap.size w) [bO .neq 3 (run_neqZ (x:=f.sd) (y:=0) (b:=false) (decide_eq_false hz)),bO .geq 3 (run_geqZ (x:=f.pc) (y:=0) (b:=true) (decide_eq_true (by omega))),lnO f.code,bO .lss 3 (run_lssZ (x:=f.pc) (y:=f.code.length) (b:=true) (decide_eq_true (by omega))),iO 9 hix,kC func17 hna,bO .eql 9 (eqS_run (a:=nmN op) (b:=[]) (q:=false) (decide_eq_false hn)),neF op 254 h254,kC func23 htk,lS underlying22 (ad:=ad) (n:=f.st.length) (cap:=cap) (z:=f.st.length) rfl,bO .gtr 3 (run_gtrZ (x:=ti) (y:=f.st.length) (b:=true) (decide_eq_true (by omega))),kC func22 (hwr 19)] (nonR w) (fun _ h=>h) I fun β1 A1 w1 I1 hb1=>?_
   exact outQ (v:=frV (wrgV f 19) (.slice ad f.st.length cap)) I1 ⟨_,rfl,.inr ⟨rfl,rfl,I1.hJ⟩⟩
  by_cases k2:256<f.st.length-ti+tz
  ·skip
   rw[hst 19 (h19 hq (.inr k2)) (by decide)]
   refine goT (T:=Below w.heap.size w) [bO .neq 3 (run_neqZ (x:=f.sd) (y:=0) (b:=false) (decide_eq_false hz)),bO .geq 3 (run_geqZ (x:=f.pc) (y:=0) (b:=true) (decide_eq_true (by omega))),lnO f.code,bO .lss 3 (run_lssZ (x:=f.pc) (y:=f.code.length) (b:=true) (decide_eq_true (by omega))),iO 9 hix,kC func17 hna,bO .eql 9 (eqS_run (a:=nmN op) (b:=[]) (q:=false) (decide_eq_false hn)),neF op 254 h254,kC func23 htk,lS underlying22 (ad:=ad) (n:=f.st.length) (cap:=cap) (z:=f.st.length) rfl,bO .gtr 3 (run_gtrZ (x:=ti) (y:=f.st.length) (b:=false) (decide_eq_false (by omega))),lS underlying22 (ad:=ad) (n:=f.st.length) (cap:=cap) (z:=f.st.length) rfl,bO .sub 3 (run_subZ (x:=f.st.length) (y:=ti) (z:=(f.st.length-ti:Nat)) (by rw[wzf (by omega) (by omega)];omega)),bO .add 3 (run_addZ (x:=(f.st.length-ti:Nat)) (y:=tz) (z:=(f.st.length-ti+tz:Nat)) (by rw[wzf (by omega) (by omega)];omega)),bO .gtr 3 (run_gtrZ (x:=(f.st.length-ti+tz:Nat)) (y:=256) (b:=true) (decide_eq_true (by omega))),kC func22 (hwr 19)] (nonR w) (fun _ h=>h) I fun β1 A1 w1 I1 hb1=>?_
   exact outQ (v:=frV (wrgV f 19) (.slice ad f.st.length cap)) I1 ⟨_,rfl,.inr ⟨rfl,rfl,I1.hJ⟩⟩
  by_cases k3:ge≠0
  ·skip
   rw[hst 3 (h3 hq (by omega) (by omega) k3) (by decide)]
   refine goT (T:=Below w.heap.size w) [bO .neq 3 (run_neqZ (x:=f.sd) (y:=0) (b:=false) (decide_eq_false hz)),bO .geq 3 (run_geqZ (x:=f.pc) (y:=0) (b:=true) (decide_eq_true (by omega))),lnO f.code,bO .lss 3 (run_lssZ (x:=f.pc) (y:=f.code.length) (b:=true) (decide_eq_true (by omega))),iO 9 hix,kC func17 hna,bO .eql 9 (eqS_run (a:=nmN op) (b:=[]) (q:=false) (decide_eq_false hn)),neF op 254 h254,kC func23 htk,lS underlying22 (ad:=ad) (n:=f.st.length) (cap:=cap) (z:=f.st.length) rfl,bO .gtr 3 (run_gtrZ (x:=ti) (y:=f.st.length) (b:=false) (decide_eq_false (by omega))),lS underlying22 (ad:=ad) (n:=f.st.length) (cap:=cap) (z:=f.st.length) rfl,bO .sub 3 (run_subZ (x:=f.st.length) (y:=ti) (z:=(f.st.length-ti:Nat)) (by rw[wzf (by omega) (by omega)];omega)),bO .add 3 (run_addZ (x:=(f.st.length-ti:Nat)) (y:=tz) (z:=(f.st.length-ti+tz:Nat)) (by rw[wzf (by omega) (by omega)];omega)),bO .gtr 3 (run_gtrZ (x:=(f.st.length-ti+tz:Nat)) (y:=256) (b:=false) (decide_eq_false (by omega))),cA func24 ht0,cA func24 ht1,cA func24 ht2,kC func25 hre,kC func26 hgw,bO .neq 3 (run_neqZ (x:=ge) (y:=0) (b:=true) (decide_eq_true k3)),kC func22 (hwr 3)] (nonR w) (fun _ h=>h) I fun β1 A1 w1 I1 hb1=>?_
   exact outQ (v:=frV (wrgV f 3) (.slice ad f.st.length cap)) I1 ⟨_,rfl,.inr ⟨rfl,rfl,I1.hJ⟩⟩
  have k3:ge=0:=Decidable.not_not.1 k3;have hex:=hex k3;have hxb:=hxb k3
  refine goT (T:=Below w.heap.size w) [bO .neq 3 (run_neqZ (x:=f.sd) (y:=0) (b:=false) (decide_eq_false hz)),bO .geq 3 (run_geqZ (x:=f.pc) (y:=0) (b:=true) (decide_eq_true (by omega))),lnO f.code,bO .lss 3 (run_lssZ (x:=f.pc) (y:=f.code.length) (b:=true) (decide_eq_true (by omega))),iO 9 hix,kC func17 hna,bO .eql 9 (eqS_run (a:=nmN op) (b:=[]) (q:=false) (decide_eq_false hn)),neF op 254 h254,kC func23 htk,lS underlying22 (ad:=ad) (n:=f.st.length) (cap:=cap) (z:=f.st.length) rfl,bO .gtr 3 (run_gtrZ (x:=ti) (y:=f.st.length) (b:=false) (decide_eq_false (by omega))),lS underlying22 (ad:=ad) (n:=f.st.length) (cap:=cap) (z:=f.st.length) rfl,bO .sub 3 (run_subZ (x:=f.st.length) (y:=ti) (z:=(f.st.length-ti:Nat)) (by rw[wzf (by omega) (by omega)];omega)),bO .add 3 (run_addZ (x:=(f.st.length-ti:Nat)) (y:=tz) (z:=(f.st.length-ti+tz:Nat)) (by rw[wzf (by omega) (by omega)];omega)),bO .gtr 3 (run_gtrZ (x:=(f.st.length-ti+tz:Nat)) (y:=256) (b:=false) (decide_eq_false (by omega))),cA func24 ht0,cA func24 ht1,cA func24 ht2,kC func25 hre,kC func26 hgw,bO .neq 3 (run_neqZ (x:=ge) (y:=0) (b:=false) (decide_eq_false (by omega)))] (nonR w) (fun _ h=>h) I fun β1 A1 w1 I1 hb1=>?_
  refine dwQ 9 [kC func27 hgs,bO .add 3 (run_addZ (x:=gs) (y:=gc) (z:=gs+gc) (by rw[wzf (by omega) (by omega)])),kC func28 hex,bO .add 3 (run_addZ (x:=gs+gc) (y:=ex) (z:=gv) (by rw[wzf (by omega) (by omega)];omega))] (nonR w) PanOk.post I1 fun A2 w2 I2=>?_;by_cases k4:f.gas<gv
  ·skip
   rw[hst 18 (h18 hq (by omega) (by omega) k3 k4) (by decide)];refine goT (T:=Below w.heap.size w) [bO .gtr 3 (run_gtrZ (x:=gv) (y:=f.gas) (b:=true) (decide_eq_true (by omega))),kC func22 (hwr 18)] (nonR w) (fun _ h=>h) I2 fun β3 A3 w3 I3 hb3=>?_;exact outQ (v:=frV (wrgV f 18) (.slice ad f.st.length cap)) I3 ⟨_,rfl,.inr ⟨rfl,rfl,I3.hJ⟩⟩
  rw[hok hq (by omega) (by omega) k3 (by omega)];refine goT (T:=Below w.heap.size w) [bO .gtr 3 (run_gtrZ (x:=gv) (y:=f.gas) (b:=false) (decide_eq_false (by omega))),bO .sub 3 (run_subZ (x:=f.gas) (y:=gv) (z:=f.gas-gv) (by rw[wzf (by omega) (by omega)]))] (nonR w) (fun _ h=>h) I2 fun β3 A3 w3 I3 hb3=>?_
  refine mcallX [Sum.inl (.agg #[str f.code,str f.inp,.slice ad f.st.length cap,str gm,Z f.pc,Z (f.gas-gv),Z f.sd,Z f.er,str f.out]),Sum.inl (frV f (.slice ad f.st.length cap)),Sum.inl (b8 op),Sum.inl (U4 a0 a1 a2 a3),Sum.inl (U4 b0 b1 b2 b3),Sum.inl (U4 c0 c1 c2 c3)] func29 I3 ((hdn hq (by omega) k3 (by omega) w3 I3.hJ).mono fun e w4 he=>?_);obtain⟨_,rfl,he⟩:=he;have hw3:=I3.hJ;rcases he with⟨ad4,cap4,rfl,ho4,hb4⟩ | ⟨q1,rfl,hb4⟩
  ·have I4:SI (SkJ w (.slice ad4 nw.st.length cap4) nw.st) (SkF w (.slice ad4 nw.st.length cap4)) [] β3 _ _ w4:=I3.moved (Grow.of_below hb4) ⟨hw3.trans (hb4.mono hw3.size),own_base ho4 hw3.size⟩ (fun k hk h=>by
    rcases h with h|h
    ·exact h
    ·have:=(ho4.lt k h).1;omega) (frV nw (.slice ad4 nw.st.length cap4))
   refine goQ [] (SkJ.rs _ _ _) I4 fun β5 A5 w5 I5 hb5=>?_;exact outQ (v:=frV nw (.slice ad4 nw.st.length cap4)) I5 ⟨_,rfl,.inl (SkJ.fro (f:=nw) I5.hJ rfl)⟩
  ·have I4:=I3.moved (J':=Below w.heap.size w) (F':=(· < w.heap.size)) (Grow.of_below hb4) (hw3.trans (hb4.mono hw3.size)) (fun _ _ h=>h) (frV nw (.slice ad f.st.length cap));refine goZ [] I4 fun β5 A5 w5 I5 hb5=>?_;exact outQ (v:=frV nw (.slice ad f.st.length cap)) I5 ⟨_,rfl,.inr ⟨q1,rfl,I5.hJ⟩⟩
 ·rw[List.getElem?_eq_none hlt]at hopd;simp only[]at hopd;subst hopd;by_cases hn:nmN 0=[]
  ·have hq:isOp 0=false:=hnm1 hn;rw[hst 21 (h21 hq) (by decide)];refine goT (T:=Below w.heap.size w) [bO .neq 3 (run_neqZ (x:=f.sd) (y:=0) (b:=false) (decide_eq_false hz)),bO .geq 3 (run_geqZ (x:=f.pc) (y:=0) (b:=true) (decide_eq_true (by omega))),lnO f.code,bO .lss 3 (run_lssZ (x:=f.pc) (y:=f.code.length) (b:=false) (decide_eq_false (by omega))),kC func17 hna,bO .eql 9 (eqS_run (a:=nmN 0) (b:=[]) (q:=true) (decide_eq_true hn)),kC func22 (hwr 21)] (nonR w) (fun _ h=>h) I fun β1 A1 w1 I1 hb1=>?_;exact outQ (v:=frV (wrgV f 21) (.slice ad f.st.length cap)) I1 ⟨_,rfl,.inr ⟨rfl,rfl,I1.hJ⟩⟩
  by_cases h254:0=254
  ·have hq:isOp 0=false:=hnm2 h254;rw[hst 21 (h21 hq) (by decide)];refine goT (T:=Below w.heap.size w) [bO .neq 3 (run_neqZ (x:=f.sd) (y:=0) (b:=false) (decide_eq_false hz)),bO .geq 3 (run_geqZ (x:=f.pc) (y:=0) (b:=true) (decide_eq_true (by omega))),lnO f.code,bO .lss 3 (run_lssZ (x:=f.pc) (y:=f.code.length) (b:=false) (decide_eq_false (by omega))),kC func17 hna,bO .eql 9 (eqS_run (a:=nmN 0) (b:=[]) (q:=false) (decide_eq_false hn)),eqF 0 254 h254,kC func22 (hwr 21)] (nonR w) (fun _ h=>h) I fun β1 A1 w1 I1 hb1=>?_
   exact outQ (v:=frV (wrgV f 21) (.slice ad f.st.length cap)) I1 ⟨_,rfl,.inr ⟨rfl,rfl,I1.hJ⟩⟩
  have hq:isOp 0=true:=hnm3 hn h254;by_cases k1:f.st.length<ti
  ·skip
   rw[hst 19 (h19 hq (.inl k1)) (by decide)]
   refine goT (T:=Below w.heap.size w) [bO .neq 3 (run_neqZ (x:=f.sd) (y:=0) (b:=false) (decide_eq_false hz)),bO .geq 3 (run_geqZ (x:=f.pc) (y:=0) (b:=true) (decide_eq_true (by omega))),lnO f.code,bO .lss 3 (run_lssZ (x:=f.pc) (y:=f.code.length) (b:=false) (decide_eq_false (by omega))),kC func17 hna,bO .eql 9 (eqS_run (a:=nmN 0) (b:=[]) (q:=false) (decide_eq_false hn)),neF 0 254 h254,kC func23 htk,lS underlying22 (ad:=ad) (n:=f.st.length) (cap:=cap) (z:=f.st.length) rfl,bO .gtr 3 (run_gtrZ (x:=ti) (y:=f.st.length) (b:=true) (decide_eq_true (by omega))),kC func22 (hwr 19)] (nonR w) (fun _ h=>h) I fun β1 A1 w1 I1 hb1=>?_
   exact outQ (v:=frV (wrgV f 19) (.slice ad f.st.length cap)) I1 ⟨_,rfl,.inr ⟨rfl,rfl,I1.hJ⟩⟩
  by_cases k2:256<f.st.length-ti+tz
  ·skip
   rw[hst 19 (h19 hq (.inr k2)) (by decide)]
   refine goT (T:=Below w.heap.size w) [bO .neq 3 (run_neqZ (x:=f.sd) (y:=0) (b:=false) (decide_eq_false hz)),bO .geq 3 (run_geqZ (x:=f.pc) (y:=0) (b:=true) (decide_eq_true (by omega))),lnO f.code,bO .lss 3 (run_lssZ (x:=f.pc) (y:=f.code.length) (b:=false) (decide_eq_false (by omega))),kC func17 hna,bO .eql 9 (eqS_run (a:=nmN 0) (b:=[]) (q:=false) (decide_eq_false hn)),neF 0 254 h254,kC func23 htk,lS underlying22 (ad:=ad) (n:=f.st.length) (cap:=cap) (z:=f.st.length) rfl,bO .gtr 3 (run_gtrZ (x:=ti) (y:=f.st.length) (b:=false) (decide_eq_false (by omega))),lS underlying22 (ad:=ad) (n:=f.st.length) (cap:=cap) (z:=f.st.length) rfl,bO .sub 3 (run_subZ (x:=f.st.length) (y:=ti) (z:=(f.st.length-ti:Nat)) (by rw[wzf (by omega) (by omega)];omega)),bO .add 3 (run_addZ (x:=(f.st.length-ti:Nat)) (y:=tz) (z:=(f.st.length-ti+tz:Nat)) (by rw[wzf (by omega) (by omega)];omega)),bO .gtr 3 (run_gtrZ (x:=(f.st.length-ti+tz:Nat)) (y:=256) (b:=true) (decide_eq_true (by omega))),kC func22 (hwr 19)] (nonR w) (fun _ h=>h) I fun β1 A1 w1 I1 hb1=>?_
   exact outQ (v:=frV (wrgV f 19) (.slice ad f.st.length cap)) I1 ⟨_,rfl,.inr ⟨rfl,rfl,I1.hJ⟩⟩
  by_cases k3:ge≠0
  ·skip
   rw[hst 3 (h3 hq (by omega) (by omega) k3) (by decide)]
   refine goT (T:=Below w.heap.size w) [bO .neq 3 (run_neqZ (x:=f.sd) (y:=0) (b:=false) (decide_eq_false hz)),bO .geq 3 (run_geqZ (x:=f.pc) (y:=0) (b:=true) (decide_eq_true (by omega))),lnO f.code,bO .lss 3 (run_lssZ (x:=f.pc) (y:=f.code.length) (b:=false) (decide_eq_false (by omega))),kC func17 hna,bO .eql 9 (eqS_run (a:=nmN 0) (b:=[]) (q:=false) (decide_eq_false hn)),neF 0 254 h254,kC func23 htk,lS underlying22 (ad:=ad) (n:=f.st.length) (cap:=cap) (z:=f.st.length) rfl,bO .gtr 3 (run_gtrZ (x:=ti) (y:=f.st.length) (b:=false) (decide_eq_false (by omega))),lS underlying22 (ad:=ad) (n:=f.st.length) (cap:=cap) (z:=f.st.length) rfl,bO .sub 3 (run_subZ (x:=f.st.length) (y:=ti) (z:=(f.st.length-ti:Nat)) (by rw[wzf (by omega) (by omega)];omega)),bO .add 3 (run_addZ (x:=(f.st.length-ti:Nat)) (y:=tz) (z:=(f.st.length-ti+tz:Nat)) (by rw[wzf (by omega) (by omega)];omega)),bO .gtr 3 (run_gtrZ (x:=(f.st.length-ti+tz:Nat)) (y:=256) (b:=false) (decide_eq_false (by omega))),cA func24 ht0,cA func24 ht1,cA func24 ht2,kC func25 hre,kC func26 hgw,bO .neq 3 (run_neqZ (x:=ge) (y:=0) (b:=true) (decide_eq_true k3)),kC func22 (hwr 3)] (nonR w) (fun _ h=>h) I fun β1 A1 w1 I1 hb1=>?_
   exact outQ (v:=frV (wrgV f 3) (.slice ad f.st.length cap)) I1 ⟨_,rfl,.inr ⟨rfl,rfl,I1.hJ⟩⟩
  have k3:ge=0:=Decidable.not_not.1 k3;have hex:=hex k3;have hxb:=hxb k3
  refine goT (T:=Below w.heap.size w) [bO .neq 3 (run_neqZ (x:=f.sd) (y:=0) (b:=false) (decide_eq_false hz)),bO .geq 3 (run_geqZ (x:=f.pc) (y:=0) (b:=true) (decide_eq_true (by omega))),lnO f.code,bO .lss 3 (run_lssZ (x:=f.pc) (y:=f.code.length) (b:=false) (decide_eq_false (by omega))),kC func17 hna,bO .eql 9 (eqS_run (a:=nmN 0) (b:=[]) (q:=false) (decide_eq_false hn)),neF 0 254 h254,kC func23 htk,lS underlying22 (ad:=ad) (n:=f.st.length) (cap:=cap) (z:=f.st.length) rfl,bO .gtr 3 (run_gtrZ (x:=ti) (y:=f.st.length) (b:=false) (decide_eq_false (by omega))),lS underlying22 (ad:=ad) (n:=f.st.length) (cap:=cap) (z:=f.st.length) rfl,bO .sub 3 (run_subZ (x:=f.st.length) (y:=ti) (z:=(f.st.length-ti:Nat)) (by rw[wzf (by omega) (by omega)];omega)),bO .add 3 (run_addZ (x:=(f.st.length-ti:Nat)) (y:=tz) (z:=(f.st.length-ti+tz:Nat)) (by rw[wzf (by omega) (by omega)];omega)),bO .gtr 3 (run_gtrZ (x:=(f.st.length-ti+tz:Nat)) (y:=256) (b:=false) (decide_eq_false (by omega))),cA func24 ht0,cA func24 ht1,cA func24 ht2,kC func25 hre,kC func26 hgw,bO .neq 3 (run_neqZ (x:=ge) (y:=0) (b:=false) (decide_eq_false (by omega)))] (nonR w) (fun _ h=>h) I fun β1 A1 w1 I1 hb1=>?_
  refine dwQ 9 [kC func27 hgs,bO .add 3 (run_addZ (x:=gs) (y:=gc) (z:=gs+gc) (by rw[wzf (by omega) (by omega)])),kC func28 hex,bO .add 3 (run_addZ (x:=gs+gc) (y:=ex) (z:=gv) (by rw[wzf (by omega) (by omega)];omega))] (nonR w) PanOk.post I1 fun A2 w2 I2=>?_;by_cases k4:f.gas<gv
  ·skip
   rw[hst 18 (h18 hq (by omega) (by omega) k3 k4) (by decide)];refine goT (T:=Below w.heap.size w) [bO .gtr 3 (run_gtrZ (x:=gv) (y:=f.gas) (b:=true) (decide_eq_true (by omega))),kC func22 (hwr 18)] (nonR w) (fun _ h=>h) I2 fun β3 A3 w3 I3 hb3=>?_;exact outQ (v:=frV (wrgV f 18) (.slice ad f.st.length cap)) I3 ⟨_,rfl,.inr ⟨rfl,rfl,I3.hJ⟩⟩
  rw[hok hq (by omega) (by omega) k3 (by omega)];refine goT (T:=Below w.heap.size w) [bO .gtr 3 (run_gtrZ (x:=gv) (y:=f.gas) (b:=false) (decide_eq_false (by omega))),bO .sub 3 (run_subZ (x:=f.gas) (y:=gv) (z:=f.gas-gv) (by rw[wzf (by omega) (by omega)]))] (nonR w) (fun _ h=>h) I2 fun β3 A3 w3 I3 hb3=>?_
  refine mcallX [Sum.inl (.agg #[str f.code,str f.inp,.slice ad f.st.length cap,str gm,Z f.pc,Z (f.gas-gv),Z f.sd,Z f.er,str f.out]),Sum.inl (frV f (.slice ad f.st.length cap)),Sum.inl (b8 0),Sum.inl (U4 a0 a1 a2 a3),Sum.inl (U4 b0 b1 b2 b3),Sum.inl (U4 c0 c1 c2 c3)] func29 I3 ((hdn hq (by omega) k3 (by omega) w3 I3.hJ).mono fun e w4 he=>?_);obtain⟨_,rfl,he⟩:=he;have hw3:=I3.hJ;rcases he with⟨ad4,cap4,rfl,ho4,hb4⟩ | ⟨q1,rfl,hb4⟩
  ·have I4:SI (SkJ w (.slice ad4 nw.st.length cap4) nw.st) (SkF w (.slice ad4 nw.st.length cap4)) [] β3 _ _ w4:=I3.moved (Grow.of_below hb4) ⟨hw3.trans (hb4.mono hw3.size),own_base ho4 hw3.size⟩ (fun k hk h=>by
    rcases h with h|h
    ·exact h
    ·have:=(ho4.lt k h).1;omega) (frV nw (.slice ad4 nw.st.length cap4))
   refine goQ [] (SkJ.rs _ _ _) I4 fun β5 A5 w5 I5 hb5=>?_;exact outQ (v:=frV nw (.slice ad4 nw.st.length cap4)) I5 ⟨_,rfl,.inl (SkJ.fro (f:=nw) I5.hJ rfl)⟩
  ·have I4:=I3.moved (J':=Below w.heap.size w) (F':=(· < w.heap.size)) (Grow.of_below hb4) (hw3.trans (hb4.mono hw3.size)) (fun _ _ h=>h) (frV nw (.slice ad f.st.length cap));refine goZ [] I4 fun β5 A5 w5 I5 hb5=>?_;exact outQ (v:=frV nw (.slice ad f.st.length cap)) I5 ⟨_,rfl,.inr ⟨q1,rfl,I5.hJ⟩⟩
abbrev zFr:Array Value:=#[str [],str [],.slice none 0 0,str [],Z 0,Z 0,Z 0,Z 0,str []]
abbrev r25 (f:Fr) (v:Value):Array Value:=#[str f.code,str f.inp,v,str f.mem,Z f.pc,Z f.gas,Z f.sd,Z f.er,str f.out]
abbrev ruK:List Nat:=[0,1,2,6,7,8]
abbrev ruV (c i:List UInt8) (gas:Int) (k:Nat):Vs:=frm 27 [(0,Sum.inl (str c)),(1,Sum.inl (str i)),(2,Sum.inl (Z gas)),(6,Sum.inr (0,0)),(7,Sum.inr (1,0)),(8,Sum.inl (Z k))]
theorem rrun_any(c i:List UInt8)(hc:c.length≤65536)(hi:i.length≤65536)(gas:Int)(w:World):Calls prog 15 #[str c,str i,Z gas] w fun e w'=>∃ x,e=.returned x∧FrO w (runV c i gas) x w':=by
 have hal:=beg_alg hc hi gas;obtain⟨m,hm⟩:∃ m:Int,(if gas<0 then(0:Int)else gas)=m:=⟨_,rfl⟩
 obtain⟨p,hp⟩:∃ p:Int,(if 100000<m then(100000:Int)else m)=p:=⟨_,rfl⟩
 have hcl:clampG gas=p:=by unfold clampG;rw[hm,hp]
 have hbg:beg c i gas=⟨c,i,[],[],0,p,0,0,[]⟩:=by unfold beg;rw[hcl]
 have hrv:runV c i gas=runN 100001 (beg c i gas):=rfl;rw[hbg,hcl]at hal;rw[hbg]at hrv;rw[hrv];generalize hfE:runN 100001 ⟨c,i,[],[],0,p,0,0,[]⟩=fE at *;refine inZ func15 fun Az I=>?_;refine goZ [mxO (k:=.i64) (x:=gas) (y:=0) (z:=m) hm,mnO (x:=m) (y:=100000) (z:=p) hp,dO 25 [0,1,5] (bd25 c i p)] I fun β1 A1 w1 I1 hb1=>?_
 let St:Nat→Act→World→Prop:=fun k a w'=>∃(n:Nat) (f:Fr) (ad:Option Addr) (cap:Nat) (β:Nat→Nat) (u:Nat→Value),k=100001-n∧n≤100001∧runN (100001-n) f=fE∧Alg p f∧SI (SkJ w (.slice ad f.st.length cap) f.st) (SkF w (.slice ad f.st.length cap)) [] β (cfC (bodyL Tryz.f15) (fillF (scrF 27 ruK) u 0 (ruV c i gas n)) [(0,zFr),(1,r25 f (.slice ad f.st.length cap))] 2) a w'
 refine lpM (bodyL Tryz.f15) St 100001 ?_ ?_
 ·obtain⟨u,Iu⟩:=I1.sj0.scr (bodyL Tryz.f15) (scrF 27 ruK) (ruV c i gas 0) [(0,zFr),(1,r25 ⟨c,i,[],[],0,p,0,0,[]⟩ (.slice none 0 0))] 2;exact⟨0,⟨c,i,[],[],0,p,0,0,[]⟩,none,0,β1,u,rfl,Nat.zero_le _,hfE,hal,Iu⟩
 rintro k a4 w4 ⟨n,f,ad,cap,β4,u,rfl,hn,hrun,hAl,I4⟩;refine wp_cfC (tm:=fillF (scrF 27 ruK) u 0 (ruV c i gas n)) (rows:=[(0,zFr),(1,r25 f (.slice ad f.st.length cap))]) (nx:=2) ?_;rcases Nat.lt_or_ge 100000 n with hl|hl
 ·have hn':n=100001:=by omega
  subst hn';have hf:f=fE:=hrun;refine goQ [bO .leq 3 (run_leqZ (x:=((100001:Nat):Int)) (y:=100000) (b:=false) (decide_eq_false (by omega)))] (SkJ.rs _ _ _) I4 fun β5 A5 w5 I5 hb5=>?_;refine endE 0 ?_;refine goQ [] (SkJ.rs _ _ _) (I5.exit _) fun β6 A6 w6 I6 hb6=>?_;exact outQ (v:=frV f (.slice ad f.st.length cap)) I6 ⟨_,rfl,hf ▸ SkJ.fro (f:=f) I6.hJ rfl⟩
 by_cases hz:f.sd=0
 ·have hO:=hAl.ok (by omega);refine goQ [bO .leq 3 (run_leqZ (x:=n) (y:=100000) (b:=true) (decide_eq_true (by omega))),bO .eql 3 (run_eqlZ (x:=f.sd) (y:=0) (b:=true) (decide_eq_true hz))] (SkJ.rs _ _ _) I4 fun β5 A5 w5 I5 hb5=>?_;have hst:=rstep_any f (fun _=>hO) ad cap (own_cap I5.hJ.o) w5 (own_skr I5.hJ.o);have hal2:=alg_step hAl hz;have hr2:runN (100001-(n+1)) (stepV f)=fE:=by
   rw[← hrun,show 100001-n=(100001-(n+1))+1 by omega,runN_step hz]
  generalize stepV f=g at *;refine mcallX [Sum.inl (frV f (.slice ad f.st.length cap))] func12 I5 (hst.mono fun e w6 he=>?_);obtain⟨xv,rfl,he⟩:=he;have hw5:=I5.hJ.bw;have hbn:Below w5.heap.size w5 w6∧∃ ad6 cap6,xv=frV g (.slice ad6 g.st.length cap6)∧w6.ownsRow w.heap.size 38 4 (.slice ad6 g.st.length cap6) g.st.length (sC g.st)∧(∀ k,k<w5.heap.size→(Value.slice ad6 g.st.length cap6).ownBlock=some k→(Value.slice ad f.st.length cap).ownBlock=some k):=by
   rcases he with⟨ad6,cap6,rfl,ho6,hb6⟩|⟨q1,rfl,hb6⟩
   ·exact⟨hb6,ad6,cap6,rfl,own_base ho6 hw5.size,fun k hk h=>by have:=(ho6.lt k h).1;omega⟩
   ·exact⟨hb6,ad,cap,by rw[q1],by rw[q1];exact owns_grow I5.hJ.o (Grow.of_below (F:=fun _=>True) hb6) (fun _ _=>trivial),fun k hk h=>by rw[q1]at h;exact h⟩
  obtain⟨hb6,ad6,cap6,rfl,ho6,hbk⟩:=hbn;have I6:SI (SkJ w (.slice ad6 g.st.length cap6) g.st) (SkF w (.slice ad6 g.st.length cap6)) [] β5 _ _ w6:=I5.moved (Grow.of_below hb6) ⟨hw5.trans (hb6.mono hw5.size),ho6⟩ (fun k hk h=>by
   rcases h with h|h
   ·exact .inl h
   ·exact .inr (hbk k hk h)) (frV g (.slice ad6 g.st.length cap6))
  refine goQ [bO .add 3 (run_addZ (x:=n) (y:=1) (z:=(n+1:Nat)) (by rw[wzf (by omega) (by omega)];omega))] (SkJ.rs _ _ _) I6 fun β7 A7 w7 I7 hb7=>?_;obtain⟨u',Iu⟩:=I7.scr (bodyL Tryz.f15) (scrF 27 ruK) (ruV c i gas (n+1)) [(0,zFr),(1,r25 g (.slice ad6 g.st.length cap6))] 2;exact endL ⟨100001-(n+1),by omega,n+1,g,ad6,cap6,β7,u',rfl,by omega,hr2,hal2,Iu⟩
 ·refine goQ [bO .leq 3 (run_leqZ (x:=n) (y:=100000) (b:=true) (decide_eq_true (by omega))),bO .eql 3 (run_eqlZ (x:=f.sd) (y:=0) (b:=false) (decide_eq_false hz))] (SkJ.rs _ _ _) I4 fun β5 A5 w5 I5 hb5=>?_;refine endE 0 ?_;refine goQ [] (SkJ.rs _ _ _) (I5.exit _) fun β6 A6 w6 I6 hb6=>?_;have hf:f=fE:=by rw[← hrun,runN_end hz]
  exact outQ (v:=frV f (.slice ad f.st.length cap)) I6 ⟨_,rfl,hf ▸ SkJ.fro (f:=f) I6.hJ rfl⟩
theorem runs_walk(c i:List UInt8)(gas:Int)(w:World)(h:TT w):Calls prog 4 #[str c,str i,Z gas] w fun e w'=>e=.returned (.bool true)∧Below w.heap.size w w':=by
 have haw:=fun w' (h':TT w')=>awake_any w' h'
 have hT:∀ w',Below w.heap.size w w'→TT w':=fun w' hb=>h.below hb
 refine inZ func4 fun Az I=>?_;by_cases h1:1000<c.length
 ·refine goT (T:=TT) [lnO c,bO .gtr 3 (run_gtrZ (x:=c.length) (y:=1000) (b:=true) (decide_eq_true (by omega))),cA func9 haw] (nonR w) hT I fun β1 A1 w1 I1 hb1=>?_;exact outZ (v:=.bool true) I1
 by_cases h2:1000<i.length
 ·refine goT (T:=TT) [lnO c,bO .gtr 3 (run_gtrZ (x:=c.length) (y:=1000) (b:=false) (decide_eq_false (by omega))),lnO i,bO .gtr 3 (run_gtrZ (x:=i.length) (y:=1000) (b:=true) (decide_eq_true (by omega))),cA func9 haw] (nonR w) hT I fun β1 A1 w1 I1 hb1=>?_;exact outZ (v:=.bool true) I1
 by_cases h3:3000<gas
 ·refine goT (T:=TT) [lnO c,bO .gtr 3 (run_gtrZ (x:=c.length) (y:=1000) (b:=false) (decide_eq_false (by omega))),lnO i,bO .gtr 3 (run_gtrZ (x:=i.length) (y:=1000) (b:=false) (decide_eq_false (by omega))),bO .gtr 3 (run_gtrZ (x:=gas) (y:=3000) (b:=true) (decide_eq_true (by omega))),cA func9 haw] (nonR w) hT I fun β1 A1 w1 I1 hb1=>?_;exact outZ (v:=.bool true) I1
 have hal:=alg_run 100001 (beg_alg (c:=c) (i:=i) (by omega) (by omega) gas);have r1:=fun w' (h':TT w')=>run_any c i (by omega) (by omega) gas w' h'.tb h'.ts
 have r2:=rrun_any c i (by omega) (by omega) gas;have v1:runV c i gas=runN 100001 (beg c i gas):=rfl;rw[v1]at r1 r2;generalize runN 100001 (beg c i gas)=fA at *;refine goZ [lnO c,bO .gtr 3 (run_gtrZ (x:=c.length) (y:=1000) (b:=false) (decide_eq_false (by omega))),lnO i,bO .gtr 3 (run_gtrZ (x:=i.length) (y:=1000) (b:=false) (decide_eq_false (by omega))),bO .gtr 3 (run_gtrZ (x:=gas) (y:=3000) (b:=false) (decide_eq_false (by omega)))] I fun β5 A5 w5 I5 hb5=>?_
 have hF0:SI (OJ w (.slice none 0 0) (.slice none 0 0) [] []) (OF w (.slice none 0 0) (.slice none 0 0)) [] β5 _ A5 w5:=⟨I5.fr,I5.df,⟨I5.hJ,World.ownsRow_nil _ _ _ _,World.ownsRow_nil _ _ _ _⟩,I5.row,fun q hq h=>I5.dis q hq (by
  rcases h with h|h|h
  ·exact h
  ·cases h
  ·cases h),I5.lt,I5.inj,I5.ids⟩
 refine mcallX [Sum.inl (str c),Sum.inl (str i),Sum.inl (Z gas)] func14 hF0 ((r1 w5 (h.below hF0.hJ.bw)).mono fun e w6 he=>?_);obtain⟨_,rfl,ad6,cap6,rfl,ho6,hb6⟩:=he;have I6:=hF0.oj1 ho6 hb6 (frV fA (.slice ad6 fA.st.length cap6));refine goQ [] (OJ.rs _ _ _ _ _) I6 fun β7 A7 w7 I7 hb7=>?_;refine mcallX [Sum.inl (str c),Sum.inl (str i),Sum.inl (Z gas)] func15 I7 ((r2 w7).mono fun e w8 he=>?_);obtain⟨_,rfl,ad8,cap8,rfl,ho8,hb8⟩:=he;have I8:=I7.oj2 ho8 hb8 (frV fA (.slice ad8 fA.st.length cap8))
 have hT2:∀ w',OJ w (.slice ad6 fA.st.length cap6) (.slice ad8 fA.st.length cap8) fA.st fA.st w'→TT w':=fun w' hb=>h.below hb.bw
 have hsm:=fun w' (h1:SkR w' (.slice ad6 fA.st.length cap6) fA.st) (h2:SkR w' (.slice ad8 fA.st.length cap8) fA.st)=>rsame_any fA fA (.slice ad6 fA.st.length cap6) (.slice ad8 fA.st.length cap8) hal.num hal.num (Nat.le_trans hal.st (by decide)) w' h1 h2
 rw[samB_eq rfl]at hsm;refine goQ [] (OJ.rs _ _ _ _ _) I8 fun β9 A9 w9 I9 hb9=>?_;refine mcallX [Sum.inl (frV fA (.slice ad6 fA.st.length cap6)),Sum.inl (frV fA (.slice ad8 fA.st.length cap8))] func10 I9 ((hsm w9 (own_skr I9.hJ.o1) (own_skr I9.hJ.o2)).mono fun e w10 he=>?_);obtain⟨rfl,hb10⟩:=he;have I10:=I9.moved (Grow.of_below hb10) ((OJ.rs _ _ _ _ _).loc _ _ I9.hJ (Grow.of_below hb10)) (fun _ _ h=>h) (.bool true);refine goT (T:=TT) [cA func9 haw] (OJ.rs _ _ _ _ _) hT2 I10 fun β11 A11 w11 I11 hb11=>?_;exact outQ (v:=.bool true) I11 ⟨rfl,I11.hJ.bw⟩
end Go.Proofs.YtceedgdbhlpjlaaGreatDoor
