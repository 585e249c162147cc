/- Laid one behind the other: Vo, Vp, Vq, Vr. -/
import Derived.Test.YtceedgdbhlpjlaaGreatDoorKqVl
import Derived.Test.YtceedgdbhlpjlaaGreatDoorKqKe
namespace Go.Proofs.YtceedgdbhlpjlaaGreatDoor
open Go.RowKit Go.Sort Tryz
set_option linter.unusedVariables false
set_option maxRecDepth 100000
set_option maxHeartbeats 4000000
structure TT (w:World):Prop where
 tb:Tb w
 ts:Tabs w ki
theorem TT.below{w w':World}(h:TT w)(hb:Below w.heap.size w w'):TT w':=⟨h.tb.below hb,h.ts.below hb⟩
theorem runV_short{c i:List UInt8}{g:Int}(n:Nat)(hn:n≤100001)(h:(runN n (beg c i g)).sd≠0):runV c i g=runN n (beg c i g):=by
 unfold runV;rw[show(100001:Nat)=n+(100001-n) by omega];exact runN_more n _ h
abbrev exA:List UInt8:=[96,2,96,3,1,95,82,96,32,95,243]
theorem exA_run:(runN 20 (beg exA [] 1000)).sd=1∧(runN 20 (beg exA [] 1000)).out.length=32∧(runN 20 (beg exA [] 1000)).out[31]? = some 5:=by decide +kernel
theorem exB_run:(runN 20 (beg [1] [] 1000)).sd=3∧(runN 20 (beg [1] [] 1000)).er=19:=by decide +kernel
theorem exC_run:(runN 20 (beg [96,9,86] [] 1000)).sd=3∧(runN 20 (beg [96,9,86] [] 1000)).er=20:=by decide +kernel
theorem awake_any(w:World)(h:TT w):Calls prog 9 #[] w fun e w'=>e=.returned (.bool true)∧Below w.heap.size w w':=by
 have hA:=runV_short (c:=exA) (i:=[]) (g:=1000) 20 (by decide) (by rw[exA_run.1];decide);have hB:=runV_short (c:=[1]) (i:=[]) (g:=1000) 20 (by decide) (by rw[exB_run.1];decide);have hC:=runV_short (c:=[96,9,86]) (i:=[]) (g:=1000) 20 (by decide) (by rw[exC_run.1];decide);have a1:(runV exA [] 1000).sd=1:=by rw[hA];exact exA_run.1
 have a2:(runV exA [] 1000).out.length=32:=by rw[hA];exact exA_run.2.1
 have a3:(runV exA [] 1000).out[31]? = some 5:=by rw[hA];exact exA_run.2.2
 have b1:(runV [1] [] 1000).er=19:=by rw[hB];exact exB_run.2
 have c1:(runV [96,9,86] [] 1000).er=20:=by rw[hC];exact exC_run.2
 have ra:=fun w' (h':TT w')=>run_any exA [] (by decide) (by decide) 1000 w' h'.tb h'.ts
 have rb:=fun w' (h':TT w')=>run_any [1] [] (by decide) (by decide) 1000 w' h'.tb h'.ts
 have rc:=fun w' (h':TT w')=>run_any [96,9,86] [] (by decide) (by decide) 1000 w' h'.tb h'.ts
 have hnm:=rname_any 1 (by decide);have en:nmN 1=[65,68,68]:=by decide +kernel
 rw[en]at hnm;generalize runV exA [] 1000=fA,runV [1] [] 1000=fB,runV [96,9,86] [] 1000=fC at *;refine inZ func9 fun Az I=>?_;refine goZ [] I fun β1 A1 w1 I1 hb1=>?_;refine qx [Sum.inl (str exA),Sum.inl (str []),Sum.inl (Z 1000)] func14 I1 ((ra w1 (h.below I1.hJ)).mono fun e w2 he=>?_);obtain⟨_,rfl,ad2,cap2,rfl,_,hb2⟩:=he;have I2:=I1.moved (J':=Below w.heap.size w) (F':=(· < w.heap.size)) (zu.of_below hb2) (I1.hJ.trans (hb2.mono I1.hJ.size)) (fun _ _ h=>h) (frV fA (.slice ad2 fA.st.length cap2));refine goZ [] I2 fun β3 A3 w3 I3 hb3=>?_
 refine qx [Sum.inl (str [1]),Sum.inl (str []),Sum.inl (Z 1000)] func14 I3 ((rb w3 (h.below I3.hJ)).mono fun e w4 he=>?_);obtain⟨_,rfl,ad4,cap4,rfl,_,hb4⟩:=he;have I4:=I3.moved (J':=Below w.heap.size w) (F':=(· < w.heap.size)) (zu.of_below hb4) (I3.hJ.trans (hb4.mono I3.hJ.size)) (fun _ _ h=>h) (frV fB (.slice ad4 fB.st.length cap4));refine goZ [] I4 fun β5 A5 w5 I5 hb5=>?_;refine qx [Sum.inl (str [96,9,86]),Sum.inl (str []),Sum.inl (Z 1000)] func14 I5 ((rc w5 (h.below I5.hJ)).mono fun e w6 he=>?_);obtain⟨_,rfl,ad6,cap6,rfl,_,hb6⟩:=he
 have I6:=I5.moved (J':=Below w.heap.size w) (F':=(· < w.heap.size)) (zu.of_below hb6) (I5.hJ.trans (hb6.mono I5.hJ.size)) (fun _ _ h=>h) (frV fC (.slice ad6 fC.st.length cap6))
 refine goZ [kC func17 hnm,bO .eql 9 (xm (a:=[65,68,68]) (b:=[65,68,68]) (q:=true) rfl),bO .eql 3 (yp (x:=fA.sd) (y:=1) (b:=true) (decide_eq_true a1)),lnO fA.out,keT fA.out.length 32,iO 9 (p:=str fA.out) (i:=Z (31:Nat)) (v:=b8 5) (zdr a3),bO .eql 5 (zdw (x:=(5:Nat)) (y:=5) (b:=true) rfl),bO .eql 23 (p:=Z fB.er) (q:=Z 19) (v:=.bool true) (by intros;rw[b1];simp[go_sem]),bO .eql 23 (p:=Z fC.er) (q:=Z 20) (v:=.bool true) (by intros;rw[c1];simp[go_sem])] I6 fun β7 A7 w7 I7 hb7=>?_;exact zl (v:=.bool true) I7
theorem rem_nat{n m:Nat}(hm:0<m):((n:Int)).tmod (m:Int)=((n%m:Nat):Int):=by rw[Int.tmod_eq_emod_of_nonneg (by omega)];omega
def SkR (w:World) (v:Value) (s:List Nat):Prop:=∃ ad cap,v=.slice ad s.length cap∧∀ j,j<s.length→∃ b off,ad=some ⟨b,off,none⟩∧zcm w b (off+j*4) (uc (tp s (s.length-1-j)))
theorem SkR.below{w w':World}{v:Value}{s:List Nat}(h:SkR w v s)(hb:Below w.heap.size w w'):SkR w' v s:=by
 obtain⟨ad,cap,rfl,h⟩:=h;refine⟨ad,cap,rfl,fun j hj=>?_⟩;obtain⟨b,off,e,hc⟩:=h j hj;refine⟨b,off,e,fun k c hk=>?_⟩;have h1:=hc k c hk;have hlt:b<w.heap.size:=World.block_lt_of_cell? w ⟨b,off+j*4+k,none⟩ h1;exact(World.cell?_of_block (a:=⟨b,off+j*4+k,none⟩) (hb.block b hlt)).trans h1
theorem own_skr{w:World}{b0:Nat}{v:Value}{s:List Nat}(h:w.ownsRow b0 38 4 v s.length (sC s)):SkR w v s:=by
 rcases h.2 with⟨rfl,h2⟩|⟨k,cap,cur,rfl,h3⟩
 ·have:s=[]:=List.eq_nil_of_length_eq_zero h2;subst this;exact⟨none,0,rfl,fun j hj=>by simp at hj⟩
 ·refine⟨some ⟨k,0,none⟩,cap,rfl,fun j hj=>⟨k,0,rfl,fun i c hc=>?_⟩⟩;have hi:i<4:=(List.getElem?_eq_some_iff.1 hc).1;rw[← sC_get s (s.length-1-j) i (by omega) hi]at hc;have:=h.cells (g:=k) rfl _ _ hc;rw[kh]at this;rw[← this]
  congr 2
  omega
def samB (f g:Fr):Bool:=decide (f.code=g.code∧f.inp=g.inp∧f.mem=g.mem∧f.pc=g.pc∧f.gas=g.gas∧f.sd=g.sd∧f.er=g.er∧f.out=g.out∧f.st=g.st)
theorem samB_eq{f g:Fr}(h:f=g):samB f g=true:=by subst h;simp[samB]
theorem neq23{x y:Int}{b:Bool}(h:decide (x≠y)=b)(o1 o2:Operand)(w:World):(do eqGuard .neq 23 o1 o2 (Z x) (Z y);binOp .neq 23 (Z x) (Z y):Sem Value).run prog w=.ok (.bool b) w:=by
 subst h;by_cases hq:x=y<;>simp[go_sem,hq]
theorem tp_ext{s t:List Nat}(hl:s.length=t.length)(h:∀ k,k<s.length→tp s k=tp t k):s=t:=by
 apply List.ext_getElem hl;intro k h1 h2;have:=h k h1;unfold tp at this;rw[List.getD_eq_getElem?_getD,List.getD_eq_getElem?_getD,List.getElem?_eq_getElem h1,List.getElem?_eq_getElem h2]at this;simpa using this
theorem rsame_any(f g:Fr)(v v':Value)(hnf:∀ u∈f.st,u<W)(hng:∀ u∈g.st,u<W)(hlf:f.st.length≤100000)(w:World)(h1:SkR w v f.st)(h2:SkR w v' g.st):Calls prog 10 #[frV f v,frV g v'] w fun e w'=>e=.returned (.bool (samB f g))∧Below w.heap.size w w':=by
 obtain⟨ad,cap,rfl,hr⟩:=h1;obtain⟨ad',cap',rfl,hr'⟩:=h2;refine inZ func10 fun Az I=>?_;by_cases q_code:f.code≠g.code
 ·refine goZ [bO .neq 9 (qi (a:=f.code) (b:=g.code) (q:=true) (decide_eq_true q_code))] I fun β1 A1 w1 I1 hb1=>?_;exact zp (v:=.bool false) I1 ⟨by rw[show samB f g=false from decide_eq_false fun h=>q_code (by simp[h])],I1.hJ⟩
 refine goZ [bO .neq 9 (qi (a:=f.code) (b:=g.code) (q:=false) (decide_eq_false q_code))] I fun _ _ _ J0 _=>?_;replace q_code:f.code=g.code:=Decidable.not_not.1 q_code;by_cases q_inp:f.inp≠g.inp
 ·refine goZ [bO .neq 9 (qi (a:=f.inp) (b:=g.inp) (q:=true) (decide_eq_true q_inp))] J0 fun β1 A1 w1 I1 hb1=>?_;exact zp (v:=.bool false) I1 ⟨by rw[show samB f g=false from decide_eq_false fun h=>q_inp (by simp[h])],I1.hJ⟩
 refine goZ [bO .neq 9 (qi (a:=f.inp) (b:=g.inp) (q:=false) (decide_eq_false q_inp))] J0 fun _ _ _ J1 _=>?_;replace q_inp:f.inp=g.inp:=Decidable.not_not.1 q_inp;by_cases q_mem:f.mem≠g.mem
 ·refine goZ [bO .neq 9 (qi (a:=f.mem) (b:=g.mem) (q:=true) (decide_eq_true q_mem))] J1 fun β1 A1 w1 I1 hb1=>?_;exact zp (v:=.bool false) I1 ⟨by rw[show samB f g=false from decide_eq_false fun h=>q_mem (by simp[h])],I1.hJ⟩
 refine goZ [bO .neq 9 (qi (a:=f.mem) (b:=g.mem) (q:=false) (decide_eq_false q_mem))] J1 fun _ _ _ J2 _=>?_;replace q_mem:f.mem=g.mem:=Decidable.not_not.1 q_mem;by_cases q_pc:f.pc≠g.pc
 ·refine goZ [bO .neq 3 (yz (x:=f.pc) (y:=g.pc) (b:=true) (decide_eq_true q_pc))] J2 fun β1 A1 w1 I1 hb1=>?_;exact zp (v:=.bool false) I1 ⟨by rw[show samB f g=false from decide_eq_false fun h=>q_pc (by simp[h])],I1.hJ⟩
 refine goZ [bO .neq 3 (yz (x:=f.pc) (y:=g.pc) (b:=false) (decide_eq_false q_pc))] J2 fun _ _ _ J3 _=>?_;replace q_pc:f.pc=g.pc:=Decidable.not_not.1 q_pc;by_cases q_gas:f.gas≠g.gas
 ·refine goZ [bO .neq 3 (yz (x:=f.gas) (y:=g.gas) (b:=true) (decide_eq_true q_gas))] J3 fun β1 A1 w1 I1 hb1=>?_;exact zp (v:=.bool false) I1 ⟨by rw[show samB f g=false from decide_eq_false fun h=>q_gas (by simp[h])],I1.hJ⟩
 refine goZ [bO .neq 3 (yz (x:=f.gas) (y:=g.gas) (b:=false) (decide_eq_false q_gas))] J3 fun _ _ _ J4 _=>?_;replace q_gas:f.gas=g.gas:=Decidable.not_not.1 q_gas;by_cases q_sd:f.sd≠g.sd
 ·refine goZ [bO .neq 3 (yz (x:=f.sd) (y:=g.sd) (b:=true) (decide_eq_true q_sd))] J4 fun β1 A1 w1 I1 hb1=>?_;exact zp (v:=.bool false) I1 ⟨by rw[show samB f g=false from decide_eq_false fun h=>q_sd (by simp[h])],I1.hJ⟩
 refine goZ [bO .neq 3 (yz (x:=f.sd) (y:=g.sd) (b:=false) (decide_eq_false q_sd))] J4 fun _ _ _ J5 _=>?_;replace q_sd:f.sd=g.sd:=Decidable.not_not.1 q_sd;by_cases q_er:f.er≠g.er
 ·refine goZ [bO .neq 23 (neq23 (x:=f.er) (y:=g.er) (b:=true) (decide_eq_true q_er))] J5 fun β1 A1 w1 I1 hb1=>?_;exact zp (v:=.bool false) I1 ⟨by rw[show samB f g=false from decide_eq_false fun h=>q_er (by simp[h])],I1.hJ⟩
 refine goZ [bO .neq 23 (neq23 (x:=f.er) (y:=g.er) (b:=false) (decide_eq_false q_er))] J5 fun _ _ _ J6 _=>?_;replace q_er:f.er=g.er:=Decidable.not_not.1 q_er;by_cases q_out:f.out≠g.out
 ·refine goZ [bO .neq 9 (qi (a:=f.out) (b:=g.out) (q:=true) (decide_eq_true q_out))] J6 fun β1 A1 w1 I1 hb1=>?_;exact zp (v:=.bool false) I1 ⟨by rw[show samB f g=false from decide_eq_false fun h=>q_out (by simp[h])],I1.hJ⟩
 refine goZ [bO .neq 9 (qi (a:=f.out) (b:=g.out) (q:=false) (decide_eq_false q_out))] J6 fun _ _ _ J7 _=>?_;replace q_out:f.out=g.out:=Decidable.not_not.1 q_out;by_cases ql:f.st.length≠g.st.length
 ·refine goZ [lSk ad f.st.length cap,lSk ad' g.st.length cap',knT f.st.length g.st.length] J7 fun β1 A1 w1 I1 hb1=>?_;exact zp (v:=.bool false) I1 ⟨by rw[show samB f g=false from decide_eq_false fun h=>ql (by simp[h])],I1.hJ⟩
 replace ql:f.st.length=g.st.length:=Decidable.not_not.1 ql;have hsam:samB f g=decide (f.st=g.st):=by unfold samB;simp[q_code,q_inp,q_mem,q_pc,q_gas,q_sd,q_er,q_out]
 rw[hsam];refine goZ [lSk ad f.st.length cap,lSk ad' g.st.length cap',knF f.st.length g.st.length] J7 fun β1 A1 w1 I1 hb1=>?_;rw[← ql]at hr'
 let tmS:Nat→Vs:=fun j=>frm 87 [(2,Sum.inr (0,0)),(3,Sum.inr (1,0)),(5,Sum.inl (Z (j:Int)))]
 let rwS:Rows:=[(0,#[str f.code,str f.inp,.slice ad f.st.length cap,str f.mem,Z f.pc,Z f.gas,Z f.sd,Z f.er,str f.out]),(1,#[str g.code,str g.inp,.slice ad' g.st.length cap',str g.mem,Z g.pc,Z g.gas,Z g.sd,Z g.er,str g.out])]
 let St:Nat→Act→World→Prop:=fun k a w'=>∃(j:Nat) (β:Nat→Nat) (u:Nat→Value),k=f.st.length-j∧j≤f.st.length∧(∀ i,i<j→tp f.st (f.st.length-1-i)=tp g.st (f.st.length-1-i)) ∧
  SI (Below w.heap.size w) (· < w.heap.size) [] β (cfC (qz Tryz.f10) (kf (scrF 87 [2,3,5]) u 0 (tmS j)) rwS 2) a w'
 refine lpM (qz Tryz.f10) St f.st.length ?_ ?_
 ·obtain⟨u,Iu⟩:=I1.scr (qz Tryz.f10) (scrF 87 [2,3,5]) (tmS 0) rwS 2;exact⟨0,β1,u,by omega,Nat.zero_le _,fun i hi=>absurd hi (Nat.not_lt_zero i),Iu⟩
 rintro k a3 w3 ⟨j,β3,u,rfl,hj,hall,I3⟩;refine zbe (tm:=kf (scrF 87 [2,3,5]) u 0 (tmS j)) (rows:=rwS) (nx:=2) ?_;rcases Nat.lt_or_ge j f.st.length with hjl|hjl
 ·obtain⟨b,off,rfl,hc⟩:=hr j hjl;obtain⟨b',off',rfl,hc'⟩:=hr' j hjl;have hx:=hnf _ (tp_mem (s:=f.st) (k:=f.st.length-1-j) (by omega));have hy:=hng _ (tp_mem (s:=g.st) (k:=f.st.length-1-j) (by omega));have hld:∀ w',Below w.heap.size w w'→(loadVar 38 ⟨b,off+j*4,none⟩).run prog w'=.ok (.agg (uc (tp f.st (f.st.length-1-j))).toArray) w':=fun w' hbl=>loadN underlying38 rfl (n:=4) (by kernel_rfl) rfl fun k c hk=>(World.cell?_of_block (a:=⟨b,off+j*4+k,none⟩) (hbl.block b (World.block_lt_of_cell? w ⟨b,off+j*4+k,none⟩ (hc k c hk)))).trans (hc k c hk)
  have hld':∀ w',Below w.heap.size w w'→(loadVar 38 ⟨b',off'+j*4,none⟩).run prog w'=.ok (.agg (uc (tp g.st (f.st.length-1-j))).toArray) w':=fun w' hbl=>loadN underlying38 rfl (n:=4) (by kernel_rfl) rfl fun k c hk=>(World.cell?_of_block (a:=⟨b',off'+j*4+k,none⟩) (hbl.block b' (World.block_lt_of_cell? w ⟨b',off'+j*4+k,none⟩ (hc' k c hk)))).trans (hc' k c hk)
  obtain⟨q,hq⟩:∃ q,decide (tp f.st (f.st.length-1-j)≠tp g.st (f.st.length-1-j))=q:=⟨_,rfl⟩
  have hne:=zei hx hy hq;have hqe:q=true→tp f.st (f.st.length-1-j)≠tp g.st (f.st.length-1-j):=fun h=>of_decide_eq_true (hq.trans h)
  have hqf:q=false→tp f.st (f.st.length-1-j)=tp g.st (f.st.length-1-j):=fun h=>Decidable.not_not.1 (of_decide_eq_false (hq.trans h))
  simp only[uc]at hld hld';unfold U at hne;generalize hxx:tp f.st (f.st.length-1-j)=x at *;generalize hyy:tp g.st (f.st.length-1-j)=y,l0 x=x0,l1 x=x1,l2 x=x2,l3 x=x3 at *;generalize l0 y=y0,l1 y=y1,l2 y=y2,l3 y=y3 at *;refine goZ [lSk (some ⟨b,off,none⟩) f.st.length cap,klT j f.st.length] I3 fun β4 A4 w4 I4 hb4=>?_
  refine dwT (T:=Below w.heap.size w) 11 [iA 22 underlying22 (sz:=4) (by kernel_rfl) (g:=b) (off:=off) (n:=f.st.length) (cap:=cap) (i:=j) hjl,ldA 38 hld,iA 22 underlying22 (sz:=4) (by kernel_rfl) (g:=b') (off:=off') (n:=g.st.length) (cap:=cap') (i:=j) (by omega),ldA 38 hld',bO .neq 38 hne] (zq w) (fun _ h=>h) (yg.then (yg.qk yg.post)) I4 fun A5 w5 I5=>?_;cases q with
  | true=>
   refine goZ [] I5 fun β6 A6 w6 I6 hb6=>?_;exact endR (retV (v:=.bool false) I6 ⟨by rw[decide_eq_false fun h=>hqe rfl (by rw[← hxx,← hyy,h])],I6.hJ⟩)
  | false=>
   refine goZ [kaZ j 1 (j+1:Nat)] I5 fun β6 A6 w6 I6 hb6=>?_;obtain⟨u',Iu⟩:=I6.scr (qz Tryz.f10) (scrF 87 [2,3,5]) (tmS (j+1)) rwS 2;exact endL ⟨f.st.length-(j+1),by omega,j+1,β6,u',rfl,hjl,fun i hi=>by
    rcases Nat.lt_or_ge i j with h|h
    ·exact hall i h
    ·have:i=j:=by omega
     subst this;rw[hxx,hyy];exact hqf rfl,Iu⟩
 ·obtain rfl:j=f.st.length:=by omega
  refine goZ [lSk ad f.st.length cap,klF f.st.length f.st.length] I3 fun β4 A4 w4 I4 hb4=>?_;refine endE 0 ?_;refine goZ [] (I4.exit _) fun β5 A5 w5 I5 hb5=>?_;refine zp (v:=.bool true) I5 ⟨?_,I5.hJ⟩;rw[decide_eq_true (tp_ext ql fun k hk=>?_)];have:=hall (f.st.length-1-k) (by omega)
  rwa [show f.st.length-1-(f.st.length-1-k)=k by omega]at this
structure OJ (w:World) (v v':Value) (s s':List Nat) (w':World):Prop where
 bw:Below w.heap.size w w'
 o1:w'.ownsRow w.heap.size 38 4 v s.length (sC s)
 o2:w'.ownsRow w.heap.size 38 4 v' s'.length (sC s')
def OF (w:World) (v v':Value) (k:Nat):Prop:=k<w.heap.size∨v.ownBlock=some k∨v'.ownBlock=some k
theorem OJ.rs(w:World)(v v':Value)(s s':List Nat):qm (OJ w v v' s s') (OF w v v'):=by
 refine⟨fun x y h gr=>⟨⟨gr.os.trans h.bw.os,gr.tape.trans h.bw.tape,gr.output.trans h.bw.output,Nat.le_trans h.bw.size gr.size,fun k hk=>(gr.block k (Nat.lt_of_lt_of_le hk h.bw.size) (.inl hk)).trans (h.bw.block k hk)⟩,xi h.o1 gr fun k hk=>.inr (.inl hk),xi h.o2 gr fun k hk=>.inr (.inr hk)⟩,fun x k h hk=>?_⟩;rcases hk with hk | hk | hk
 ·exact Nat.lt_of_lt_of_le hk h.bw.size
 ·exact(h.o1.lt k hk).2
 ·exact(h.o2.lt k hk).2
section
variable {w0 w w':World} {v v' v2:Value} {s s' t:List Nat} {ds:List Deferred} {β:Nat→Nat} {c:Cf} {a:Act}
theorem OJ.of_below(h:OJ w0 v v' s s' w)(hb:Below w.heap.size w w'):OJ w0 v v' s s' w':=(OJ.rs _ _ _ _ _).loc _ _ h (zu.of_below hb)
end
theorem sC_at(s:List Nat)(q:Nat)(hq:q<4*s.length):(sC s)[q]? = (uc (tp s (s.length-1-q/4)))[q%4]? :=by
 have:=sC_get s (s.length-1-q/4) (q%4) (by omega) (by omega);rw[show 4*(s.length-1-(s.length-1-q/4))+q%4=q by omega]at this;exact this
theorem bsU0(w:World):(Instr.buildSlice 22 0 #[]).run prog w=.ok (.slice (some ⟨w.heap.size,0,none⟩) 0 0) (w.alloc (.cells #[] 38)):=by kernel_rfl
theorem sC_one(s:List Nat):∀ u∈sC s,u.oneCell'=true:=by
 intro u hu;unfold sC at hu;obtain⟨n,_,hn⟩:=List.mem_flatMap.1 hu;simp only[uc,List.mem_cons,List.not_mem_nil,or_false]at hn;rcases hn with rfl|rfl|rfl|rfl<;>rfl
theorem SI.noRows{J:World→Prop}{F F':Nat→Prop}{ds:List Deferred}{β:Nat→Nat}{c:Cf}{a:Act}{w:World}(I:SI J F ds β c a w)(hc:c.rows=[]:=by kernel_rfl):SI J F' ds β c a w:=⟨I.fr,I.df,I.hJ,I.row,fun p hp=>(by rw[hc]at hp;cases hp),I.lt,I.inj,I.ids⟩
theorem clone_any(v:Value)(s:List Nat)(hs:s.length≤100000)(w:World)(h:SkR w v s):Calls prog 18 #[v] w fun e w'=>∃ ad cap,e=.returned (.slice ad s.length cap)∧w'.ownsRow w.heap.size 38 4 (.slice ad s.length cap) s.length (sC s)∧Below w.heap.size w w':=by
 obtain⟨ad,cap,rfl,hr⟩:=h;refine inZ func18 fun Az I=>?_;cases ad with
 | none=>
  have hz:s=[]:=by
   cases s with
   | nil=>rfl
   | cons a s=>
    obtain⟨b,off,e,_⟩:=hr 0 (by simp);cases e
  subst hz;refine goZ [bO .eql 22 (p:=.slice none 0 cap) (q:=.slice none 0 0) (v:=.bool true) (by intros;kernel_rfl)] I fun β1 A1 w1 I1 hb1=>?_;exact zp (v:=.slice none 0 0) I1 ⟨none,0,rfl,World.ownsRow_nil _ _ _ _,I1.hJ⟩
 | some ad=>
  generalize hn:s.length=n at *;refine goZ [bO .eql 22 (p:=.slice (some ad) n cap) (q:=.slice none 0 0) (v:=.bool false) (by intros;kernel_rfl)] I fun β1 A1 w1 I1 hb1=>?_;refine bslQ (ss:=[]) I1 (bsU0 w1) ?_;have hw1:=I1.hJ;have hbl:Below w1.heap.size w1 (w1.alloc (.cells #[] 38)):=xz _ _;have ho:(w1.alloc (.cells #[] 38)).ownsRow w.heap.size 38 4 (.slice (some ⟨w1.heap.size,0,none⟩) 0 0) 0 []:=World.ownsRow_made w1 #[] 0 hw1.size (by decide) rfl
  have I2:SI (fun w'=>Below w.heap.size w w'∧w'.ownsRow w.heap.size 38 4 (.slice (some ⟨w1.heap.size,0,none⟩) 0 0) 0 []) (fun k=>k<w.heap.size∨k=w1.heap.size) [] β1 _ _ (w1.alloc (.cells #[] 38)):=I1.moved (zu.of_below hbl) ⟨hw1.trans (hbl.mono hw1.size),ho⟩ (fun k hk h=>by
   rcases h with h|h
   ·exact h
   ·omega) (.slice (some ⟨w1.heap.size,0,none⟩) 0 0)
  have R2:qm (fun w':World=>Below w.heap.size w w'∧w'.ownsRow w.heap.size 38 4 (.slice (some ⟨w1.heap.size,0,none⟩) 0 0) 0 []) (fun k=>k<w.heap.size∨k=w1.heap.size):=⟨fun x y hx gr=>⟨⟨gr.os.trans hx.1.os,gr.tape.trans hx.1.tape,gr.output.trans hx.1.output,Nat.le_trans hx.1.size gr.size,fun k hk=>(gr.block k (Nat.lt_of_lt_of_le hk hx.1.size) (.inl hk)).trans (hx.1.block k hk)⟩,xi hx.2 gr fun k hk=>.inr (by have:w1.heap.size=k:=Option.some.inj hk;omega)⟩,fun x k hx hk=>by
   rcases hk with hk|hk
   ·exact Nat.lt_of_lt_of_le hk hx.1.size
   ·rw[hk];exact(hx.2.lt _ rfl).2⟩
  refine goQ [] R2 I2 fun β3 A3 w3 I3 hb3=>?_;obtain⟨iU,hU1,hU2,hU3,hU4⟩:=hIU;have hnews:∀ j u,(sC s)[j]? = some u→w3.cell? (ad.add j)=some u:=fun j u hj=>by
   have hjl:j<4*n:=by have:=(List.getElem?_eq_some_iff.1 hj).1;rw[zav]at this;omega
   rw[sC_at s j (by omega),hn]at hj;obtain⟨b,off,e,hc⟩:=hr (j/4) (by omega);have e:ad=⟨b,off,none⟩:=Option.some.inj e;subst e;have h1:=hc (j%4) u hj;rw[kh];have e2:off+j=off+j/4*4+j%4:=by omega
   rw[e2];exact(World.cell?_of_block (a:=⟨b,off+j/4*4+j%4,none⟩) (I3.hJ.1.block b (World.block_lt_of_cell? w ⟨b,off+j/4*4+j%4,none⟩ h1))).trans h1
  obtain⟨v',w4,hr4,ho4,hg4,_⟩:=run_append_own (P:=prog) w3 w.heap.size 22 22 38 iU _ 4 32 underlying22 hU1 hU2 hU3 hU4 rfl (by decide) _ 0 [] I3.hJ.2 ad n cap (sC s) (by rw[zav];omega) hnews (sC_one s) (by simp only[maxLen];omega) (by omega) I3.hJ.1.size;rw[List.nil_append,Nat.zero_add]at ho4;obtain⟨ad4,cap4,rfl⟩:=qt ho4;refine appQ (ss:=[Sum.inl (.slice (some ⟨w1.heap.size,0,none⟩) 0 0),Sum.inl (.slice (some ad) n cap)]) I3 hr4 ?_
  have hb4:Below w.heap.size w w4:=⟨hg4.os.trans I3.hJ.1.os,hg4.tape.trans I3.hJ.1.tape,hg4.output.trans I3.hJ.1.output,Nat.le_trans I3.hJ.1.size hg4.size,fun k hk=>(hg4.block k (Nat.lt_of_lt_of_le hk I3.hJ.1.size) (fun e=>by have e:k=w1.heap.size:=Option.some.inj e;have:=hw1.size;omega)).trans (I3.hJ.1.block k hk)⟩
  have I4:=I3.moved (J':=Below w4.heap.size w4) (F':=fun _=>False) ⟨hg4.os,hg4.tape,hg4.output,hg4.size,fun k hk hnn=>hg4.block k hk fun e=>hnn (.inr (Option.some.inj e))⟩ (Below.refl _ _) (fun k hk h=>h.elim) (.slice ad4 n cap4);refine goQ [] (zq w4) (I4.noRows (F':=(· < w4.heap.size))) fun β5 A5 w5 I5 hb5=>?_;exact zp (v:=.slice ad4 n cap4) I5 ⟨ad4,cap4,rfl,xi (hn ▸ ho4) (zu.of_below (F:=fun _=>True) I5.hJ) (fun _ _=>trivial),hb4.trans (I5.hJ.mono hb4.size)⟩
theorem stp_any(f:Fr)(v:Value)(hO:f.sd=0→OkR f)(hst:f.st.length≤256)(w:World)(h:TT w)(hs:SkR w v f.st):Calls prog 11 #[frV f v] w fun e w'=>∃ x,e=.returned x∧FrO w (x9 f) x w':=by
 have h7:7≤w.heap.size:=by
  obtain⟨t,fr,h⟩:=h.ts.p;exact(Array.getElem?_eq_some_iff.1 h).1
 have hs':=hs;obtain⟨ad0,cap0,rfl,_⟩:=hs';have hlE:(x9 f).st.length≤1000:=by
  by_cases hz:f.sd=0
  ·by_cases he:qg f=0
   ·rw[zeg hz he];exact Nat.le_trans ((nxt_of (hO hz) hz (fine_of he)).ok hz).st (by decide)
   ·rw[zbn hz he];exact Nat.le_trans hst (by decide)
  ·have e:x9 f=f:=by unfold x9;rw[if_pos hz]
   rw[e];exact Nat.le_trans hst (by decide)
 refine inZ func11 fun Az I=>?_;refine goZ [dO 41 [0] (bd41 f.code f.inp f.mem f.out (.slice ad0 f.st.length cap0) f.pc f.gas f.sd f.er)] I fun β1 A1 w1 I1 hb1=>?_;obtain⟨g,hg⟩:∃ g,β1 2=g:=⟨_,rfl⟩
 have hr1:=I1.rowG 2 hg (r:=xf f (.slice ad0 f.st.length cap0) 0 0 (.slice none 0 0));have hge:¬ (β1 2<w.heap.size):=I1.dis _ (yl (show xr _ 2=some (xf f (.slice ad0 f.st.length cap0) 0 0 (.slice none 0 0)) by kernel_rfl));rw[hg]at hge;refine qx [Sum.inl (.slice ad0 f.st.length cap0)] func18 I1 ((clone_any _ f.st (by omega) w1 (hs.below I1.hJ)).mono fun e w2 he=>?_);obtain⟨ad2,cap2,rfl,ho2,hb2⟩:=he;have hgl:=hr1.lt;have hbw2:Below w.heap.size w w2:=I1.hJ.trans (hb2.mono I1.hJ.size);have hT2:=h.below hbw2
 have I2:SI (RJ w g (.slice ad2 f.st.length cap2) f (.slice none 0 0)) (RjF w (.slice ad2 f.st.length cap2) (.slice none 0 0)) [] β1 _ _ w2:=I1.moved (zu.of_below hb2) ⟨hbw2,⟨zb9 ho2 hgl,hT2.tb,hT2.ts,by omega,Nat.lt_of_lt_of_le hgl hb2.size,.inl rfl⟩,by omega⟩ (fun k hk hF=>by
  rcases hF with hF|hF|hF
  ·exact hF
  ·have:=(ho2.lt k hF).1;omega
  ·cases hF) (.slice ad2 f.st.length cap2)
 by_cases hz:f.sd=0
 ·refine goQ [bO .eql 3 (yp (x:=f.sd) (y:=0) (b:=true) (decide_eq_true hz))] (RJ.rs w h7 _ _ _ _) I2 fun β3 A3 w3 I3 hb3=>?_;have hz3:β3 2=g:=agr hb3 2 hg;refine mkfB (fn:=.func 20) (ss:=[Sum.inr (2,0)]) (qs:=[]) I3 ?_;refine goQ [] (RJ.rs w h7 _ _ _ _) (I3.same (.func (.func 20) #[yb (β3 2)] #[])) fun β4 A4 w4 I4 hb4=>?_;have hz4:β4 2=g:=agr hb4 2 hz3;have hmi:MI g (.slice ad2 f.st.length cap2) f 0 0 (.slice none 0 0) w4:=⟨I4.rowG 2 hz4,I4.hJ.c⟩
  have hcat:=catch_any hmi (x9 f) func20 (by kernel_rfl) (by kernel_rfl) #[yb g] #[] fun w5 hb5 hmi5=>by
   refine(step_any (hO hz) hmi5).mono fun e w6 he=>?_;obtain⟨v6,dv6,⟨e0,rfl,hp⟩ | ⟨e0,rfl,hp⟩⟩:=he
   ·exact⟨v6,dv6,_,_,_,hp,.inl ⟨rfl,(zeg hz e0).symm⟩⟩
   ·exact⟨v6,dv6,_,_,_,hp,.inr ⟨_,rfl,(zbn hz e0).symm⟩⟩
  generalize x9 f=fE at *;refine qx [Sum.inr (2,0),Sum.inl (.func (.func 20) #[yb (β3 2)] #[])] func19 I4 ?_;have ea:([Sum.inr (2,0),Sum.inl (.func (.func 20) #[yb (β3 2)] #[])].map (up β4)).toArray=#[yb g,.func (.func 20) #[yb g] #[]]:=by
   rw[hz3];simp only[List.map_cons,List.map_nil,up];rw[hz4]
  rw[ea];refine hcat.mono fun e w5 he=>?_;obtain⟨rfl,v5,dv5,op5,pa5,hp5⟩:=he;obtain⟨ad5,cap5,rfl⟩:=qt hp5.s.c.own;refine(at_row (id:=2) (r:=xf fE (.slice ad5 fE.st.length cap5) op5 pa5 dv5)).1 ?_;have I5:=I4.rj hz4 hp5 TU0 (r0:=xf f (.slice ad2 f.st.length cap2) 0 0 (.slice none 0 0)) (by kernel_rfl);refine goQ [] (RJ.rs w h7 _ _ _ _) I5 fun β6 A6 w6 I6 hb6=>?_;have hz6:β6 2=g:=agr hb6 2 hz4;have hmi6:MI g (.slice ad5 fE.st.length cap5) fE op5 pa5 dv5 w6:=⟨I6.rowG 2 hz6,I6.hJ.c⟩
  refine qx [Sum.inr (2,0)] func21 I6 ?_;have eb:([Sum.inr (2,0)].map (up β6)).toArray=#[yb g]:=by rw[← hz6];rfl
  rw[eb];refine(mtold_any hmi6 hlE).mono fun e w7 he=>?_;obtain⟨ad7,cap7,rfl,hp7⟩:=he;refine(at_row (id:=2) (r:=xf fE (.slice ad7 fE.st.length cap7) op5 pa5 dv5)).1 ?_;have I7:=I6.rj hz6 hp7 (frV fE (.slice ad7 fE.st.length cap7)) (r0:=xf fE (.slice ad5 fE.st.length cap5) op5 pa5 dv5) (by kernel_rfl);refine goQ [] (RJ.rs w h7 _ _ _ _) I7 fun β8 A8 w8 I8 hb8=>?_;exact zp (v:=frV fE (.slice ad7 fE.st.length cap7)) I8 ⟨_,rfl,ad7,cap7,rfl,zb9 I8.hJ.c.own (by omega),I8.hJ.bw⟩
 ·have e:x9 f=f:=by unfold x9;rw[if_pos hz]
  rw[e]at hlE ⊢;refine goQ [bO .eql 3 (yp (x:=f.sd) (y:=0) (b:=false) (decide_eq_false hz))] (RJ.rs w h7 _ _ _ _) I2 fun β6 A6 w6 I6 hb6=>?_;have hz6:β6 2=g:=agr hb6 2 hg;have hmi6:MI g (.slice ad2 f.st.length cap2) f 0 0 (.slice none 0 0) w6:=⟨I6.rowG 2 hz6,I6.hJ.c⟩
  refine qx [Sum.inr (2,0)] func21 I6 ?_;have eb:([Sum.inr (2,0)].map (up β6)).toArray=#[yb g]:=by rw[← hz6];rfl
  rw[eb];refine(mtold_any hmi6 hlE).mono fun e w7 he=>?_;obtain⟨ad7,cap7,rfl,hp7⟩:=he;refine(at_row (id:=2) (r:=xf f (.slice ad7 f.st.length cap7) 0 0 (.slice none 0 0))).1 ?_;have I7:=I6.rj hz6 hp7 (frV f (.slice ad7 f.st.length cap7)) (r0:=xf f (.slice ad2 f.st.length cap2) 0 0 (.slice none 0 0)) (by kernel_rfl);refine goQ [] (RJ.rs w h7 _ _ _ _) I7 fun β8 A8 w8 I8 hb8=>?_;exact zp (v:=frV f (.slice ad7 f.st.length cap7)) I8 ⟨_,rfl,ad7,cap7,rfl,zb9 I8.hJ.c.own (by omega),I8.hJ.bw⟩
end Go.Proofs.YtceedgdbhlpjlaaGreatDoor
