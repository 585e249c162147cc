/- Laid one behind the other: Yh, Yi, Yj, Yk. -/
import Derived.Test.YtdeompgdhaomgaaGreatDoorKtYa
namespace Go.Proofs.YtdeompgdhaomgaaGreatDoor
open Go.RowKit Go.Sort Go.Proofs.Tryz
set_option linter.unusedVariables false
set_option maxRecDepth 100000
set_option maxHeartbeats 4000000
theorem U_small{n:Nat}(h:n<M):U n=.agg #[B n,B 0,B 0,B 0]:=by
 have e0:l0 n=n:=Nat.mod_eq_of_lt h;unfold U;rw[e0,show l1 n=0 by unfold l1;rw[Nat.div_eq_of_lt h];rfl,show l2 n=0 by unfold l2;rw[Nat.div_eq_of_lt (Nat.lt_of_lt_of_le h (by decide))];rfl,show l3 n=0 by unfold l3;rw[Nat.div_eq_of_lt (Nat.lt_of_lt_of_le h (by decide))];rfl]
theorem bd_Us{n:Nat}(h:n<M)(w:World):(Instr.build 57 (([0,1,2,3]:List Nat).zip [B n,B 0,B 0,B 0]).toArray).run prog w=.ok (U n) w:=by
 rw[U_small h];kernel_rfl
theorem bd_n1(u:Nat)(w:World):(Instr.build 59 (([1]:List Nat).zip [U u]).toArray).run prog w=.ok (nTm u) w:=by kernel_rfl
theorem rnumT(n:Nat)(hn:n<M):RT 94 #[B n] (nTm n):=by
 refine fun w=>inZ func94 fun a I=>?_;refine goZ [dO 57 [0,1,2,3] (bd_Us hn),dO 59 [1] (bd_n1 n)] I fun β a w1 I hb=>?_;exact xj (v:=nTm n) I
theorem rtextT(s:ByteArray):RT 95 #[.string s] (tTm s):=by
 refine fun w=>inZ func95 fun a I=>?_;refine goZ [dO 59 [0,2] (bd_tTm s)] I fun β a w1 I hb=>?_;exact xj (v:=tTm s) I
theorem rlistT(ad:Option Addr)(n cap:Nat):RT 93 #[.slice ad n cap] (lTm (.slice ad n cap)):=by
 refine fun w=>inZ func93 fun a I=>?_;refine goZ [dO 59 [0,3] (bd_lst2 ad n cap)] I fun β a w1 I hb=>?_;exact xj (v:=lTm (.slice ad n cap)) I
theorem rbytesT(s:ByteArray)(hs:s.size≤32):RT 92 #[.string s] (nTm (rdB s)):=by
 intro w;have hr:∀ w',Calls prog 51 #[.string s] w' fun e w''=>e=.returned (.tuple #[U (rdB s),Z 0])∧Below w'.heap.size w' w'':=fun w'=>rread_any s hs w'
 generalize rdB s=u at hr ⊢;refine inZ func92 fun a I=>?_;refine goZ [kC func51 hr,dO 59 [1] (bd_n1 u)] I fun β a w1 I hb=>?_;exact xj (v:=nTm u) I
abbrev rwK:List Nat:=[0,1,2,3,4]
abbrev rwV (fv ov:Value) (i:Nat):Vs:=frm 34 [(0,Sum.inl fv),(1,Sum.inr (0,0)),(2,Sum.inl (.slice none 0 0)),(3,Sum.inl ov),(4,Sum.inl (Z i))]
theorem rfixedTerms(n:Nat){w:World}{f:Fi}{pv:Value}(h:StI w pv f.1)(hl:f.1.length<100000000)(hp:∀ s∈f.1,s.size≤32)(hn:f.2.1<M)(ht:∃ m:Nat,f.2.2.2=m∧m<1000000000):Calls prog 63 #[qm f pv] w (TermsP (n+2) (fiT n f) w):=by
 obtain⟨ps,no,ap,ti⟩:=f;obtain⟨tm,rfl,htm⟩:∃ m:Nat,ti=m∧m<1000000000:=ht;obtain⟨ad0,cap0,rfl,hm⟩:=h;have hn:no<M:=hn;simp only[]at hm hl hp;refine inQ (J:=QJ (CT n) w 59 7 (.slice none 0 0) [] [] noK) (F:=QF w (.slice none 0 0) noK) func63 (QJ.start _ _ _ _) fun a I=>?_;refine goQ [] (QJ.rs (CT.loc n) _ _ _ _ _ _ _) I fun β a w1 I hb=>?_
 let St:Nat→Act→World→Prop:=fun k a w'=>∃(i:Nat) (β:Nat→Nat) (u:Nat→Value) (ad:Option Addr) (cap:Nat) (X:List (List Value)) (K:Nat→Prop),k=ps.length-i∧i≤ps.length∧X.length=i ∧
  SI (QJ (CT n) w 59 7 (.slice ad i cap) X ((ps.take i).map fun s=>yc n (rdB s)) K) (QF w (.slice ad i cap) K) [] β (cfC (zc Tryz.f63) (zl (zg 34 rwK) u 0 (rwV (.agg #[.slice ad0 ps.length cap0,B no,.string ap,Z (tm:Nat)]) (.slice ad i cap) i)) [(0,#[.slice ad0 ps.length cap0,B no,.string ap,Z (tm:Nat)])] 1) a w'
 refine lpM (zc Tryz.f63) St ps.length ?_ ?_
 ·obtain⟨u,Iu⟩:=I.scr (zc Tryz.f63) (zg 34 rwK) (rwV (.agg #[.slice ad0 ps.length cap0,B no,.string ap,Z (tm:Nat)]) (.slice none 0 0) 0) [(0,#[.slice ad0 ps.length cap0,B no,.string ap,Z (tm:Nat)])] 1;exact⟨0,β,u,none,0,[],noK,by omega,Nat.zero_le _,rfl,Iu⟩
 rintro k a3 w3 ⟨i,β3,u,ad,cap,X,K,rfl,hi,hXi,I⟩;refine zv (tm:=zl (zg 34 rwK) u 0 (rwV (.agg #[.slice ad0 ps.length cap0,B no,.string ap,Z (tm:Nat)]) (.slice ad i cap) i)) (rows:=[(0,#[.slice ad0 ps.length cap0,B no,.string ap,Z (tm:Nat)])]) (nx:=1) ?_;rcases Nat.lt_or_ge i ps.length with hil|hil
 ·obtain⟨x,h1⟩:∃ t,ps[i]? = some t:=⟨_,List.getElem?_eq_getElem hil⟩
  obtain⟨ga,offa,cs,rfl,hlt,hca,rfl⟩:=hm i _ h1;have hxl:=hp x (List.mem_of_getElem? h1);obtain⟨L,hL⟩:∃ L,((ps.take i).map fun s=>yc n (rdB s))=L:=⟨_,rfl⟩
  rw[hL]at I;have hld:∀ w',QJ (CT n) w 59 7 (.slice ad i cap) X L K w'→(loadVar 9 ⟨ga,offa+i*1,none⟩).run prog w'=.ok (.string x) w':=fun w' hb=>zbh (hca.keep (hb.below.block ga hlt))
  have hby:∀ w',QJ (CT n) w 59 7 (.slice ad i cap) X L K w'→Calls prog 92 #[.string x] w' fun e w''=>e=.returned (nTm (rdB x))∧Below w'.heap.size w' w'':=fun w' _=>rbytesT x hxl w'
  obtain⟨ux,hux⟩:∃ u,rdB x=u:=⟨_,rfl⟩
  rw[hux]at hby;refine goT (T:=QJ (CT n) w 59 7 (.slice ad i cap) X L K) [lS underlying22 (ad:=some ⟨ga,offa,none⟩) (n:=ps.length) (cap:=cap0) rfl,klT i ps.length,iA 22 underlying22 (sz:=1) (by kernel_rfl) (g:=ga) (off:=offa) (n:=ps.length) (cap:=cap0) hil,ldA 9 hld,cA func92 hby] (QJ.rs (CT.loc n) _ _ _ _ _ _ _) (fun _ h=>h) I fun β4 a4 w4 I hb4=>?_;have I5:=I.also (J':=MK (CT n) noK (yc n ux) (tx (0,ux,eB,.slice none 0 0))) (F':=noK) ⟨fun k h=>h.elim,_,rfl,LAf.nil _ _ n⟩ (fun p hp h=>h.elim)
  refine kh (CT.loc n) underlying48 hI41 rfl (by decide) (by decide) (ev:=nTm ux) (zaa _ _ _ _ _ _ _ w4) rfl (one7 _ _ _ _ _ _) I5 hXi (by omega) (fun k h=>h.elim) fun ad8 cap8 a8 w8 I8=>?_;refine goQ [kaZ i 1 (i+1:Nat)] (QJ.rs (CT.loc n) _ _ _ _ _ _ _) I8 fun β9 a9 w9 I hb9=>?_;obtain⟨u',Iu⟩:=I.scr (zc Tryz.f63) (zg 34 rwK) (rwV (.agg #[.slice (some ⟨ga,offa,none⟩) ps.length cap0,B no,.string ap,Z (tm:Nat)]) (.slice ad8 (i+1) cap8) (i+1)) [(0,#[.slice (some ⟨ga,offa,none⟩) ps.length cap0,B no,.string ap,Z (tm:Nat)])] 1
  have htk:(ps.take (i+1)).map (fun s=>yc n (rdB s))=L++[yc n ux]:=by rw[List.take_add_one,h1,List.map_append,hL,← hux];rfl
  refine xc ⟨ps.length-(i+1),by omega,i+1,β9,u',ad8,cap8,X++[tx (0,ux,eB,.slice none 0 0)],(fun k=>K k∨noK k),rfl,hil,by rw[List.length_append,hXi];rfl,?_⟩;rw[htk];exact Iu
 ·obtain rfl:i=ps.length:=by omega
  refine goQ [lS underlying22 (ad:=ad0) (n:=ps.length) (cap:=cap0) rfl,bO .lss 3 (zf (x:=ps.length) (y:=ps.length) (b:=false) (by simp))] (QJ.rs (CT.loc n) _ _ _ _ _ _ _) I fun β4 a4 w4 I hb4=>?_;refine xg 0 ?_;refine goQ [] (QJ.rs (CT.loc n) _ _ _ _ _ _ _) (I.exit _) fun β5 a5 w5 I hb5=>?_;rw[List.take_length]at I;obtain⟨L,hL⟩:∃ L:TL (n+1),(ps.map fun s=>yc n (rdB s))=L:=⟨_,rfl⟩
  have hfi:fiT n (ps,no,ap,(tm:Int))=[zt (n+1) L,yc (n+1) no,yj (n+1) ap,yc (n+1) tm]:=by rw[← hL];rfl
  have hpl:ps.length=List.length (α:=TT n) L:=by rw[← hL];simp
  simp only[hL]at I;rw[hfi];refine dwT (T:=fun _=>True) 12 [kC func93 (rlistT ad ps.length cap),kC func94 (rnumT no hn),kC func95 (rtextT ap),vO 3 23 (p:=Z tm) (v:=B tm) (cnvB tm (by omega)),kC func94 (rnumT tm (Nat.lt_trans htm (by decide)))] (QJ.rs (CT.loc n) _ _ _ _ _ _ _) (fun _ _=>trivial) zd.post I fun a6 w6 I=>?_;refine bslQ (ss:=[(0,Sum.inl (lTm (.slice ad ps.length cap))),(1,Sum.inl (nTm no)),(2,Sum.inl (tTm ap)),(3,Sum.inl (nTm tm))]) I (bs_t4 (2,0,eB,.slice ad ps.length cap) (nX no) (1,0,ap,.slice none 0 0) (nX tm) w6) ?_
  have I3:=I.lay (QJ.rs (CT.loc n) _ _ _ _ _ _ _) (.cells ([tx (2,0,eB,.slice ad ps.length cap),tx (nX no),tx (1,0,ap,.slice none 0 0),tx (nX tm)].flatten).toArray 59) (.slice (some ⟨w6.heap.size,0,none⟩) 4 4);obtain⟨b,hb2⟩:∃ b,w6.heap.size=b:=⟨_,rfl⟩
  have hbw:=I.hJ.below.size;rw[hb2]at I3 ⊢;refine goQ [] (((QJ.rs (CT.loc n) _ _ _ _ _ _ _)).lay _ _) I3 fun β7 a7 w7 I hb7=>?_;have hdn:=(I.hJ.1.done (CT.loc n)).terms;have hkb:=I.hJ.1.kb2;have hbl:b<w7.heap.size:=(Array.getElem?_eq_some_iff.1 I.hJ.2).1;refine zh (v:=.slice (some ⟨b,0,none⟩) 4 4) I ⟨I.hJ.1.below,some ⟨b,0,none⟩,4,4,(fun k=>(K k∨(Value.slice ad ps.length cap).ownBlock=some k)∨k=b),rfl,fun k hk=>?_,?_⟩
  ·rcases hk with hk|hk
   ·exact hkb k hk
   ·subst hk;exact⟨by omega,hbl⟩
  ·refine za0 (K:=fun k=>(K k∨(Value.slice ad ps.length cap).ownBlock=some k)∨k=b) (xs:=[(2,0,eB,.slice ad ps.length cap),nX no,(1,0,ap,.slice none 0 0),nX tm]) (l:=[zt (n+1) L,yc (n+1) no,yj (n+1) ap,yc (n+1) tm]) I.hJ.2 (.inr rfl) rfl (fun i x t hx ht=>?_) 4
   match i,hx,ht with
   | 0,hx,ht=>cases hx;cases ht;exact⟨rfl,rfl,rfl,hdn.mono fun k hk=>.inl hk⟩
   | 1,hx,ht=>cases hx;cases ht;exact⟨rfl,rfl,rfl,LAf.nil _ _ _⟩
   | 2,hx,ht=>cases hx;cases ht;exact⟨rfl,rfl,rfl,LAf.nil _ _ _⟩
   | 3,hx,ht=>cases hx;cases ht;exact⟨rfl,rfl,rfl,LAf.nil _ _ _⟩
theorem zcn{α:Type}{C:Cl α}(hC:Loc C){t e sz by_:Nat}{z:Value}(ht:prog.underlying t=some (.slice e))(hinf:∃ i,prog.info? e=some i∧i.zero=some z∧i.size=sz∧i.bytes=by_)(hzs:z.cells.size=sz)(hsz:0<sz)(hby:by_≤1000){w:World}{i cap:Nat}{ad:Option Addr}{X:List (List Value)}{l:List α}{K K1:Nat→Prop}{x:α}{cs:List Value}{ev:Value}{J2:World→Prop}{F2:Nat→Prop}(R2:yw J2 F2){ds:List Deferred}{β:Nat→Nat}{c:Cf}{a:Act}{w6:World}{Q:Exit→Act→World→Prop}(hbs:(Instr.buildSlice t 1 #[(0,ev)]).run prog w6=.ok (.slice (some ⟨w6.heap.size,0,none⟩) 1 1) (w6.alloc (.cells cs.toArray e)))(hcs:cs.length=sz)(hone:∀ u∈cs,u.oneCell'=true)(I6:SI (fun w'=>(QJ C w e sz (.slice ad i cap) X l K w'∧MK C K1 x cs w')∧J2 w') (fun k=>(QF w (.slice ad i cap) K k∨K1 k)∨F2 k) ds β c a w6)(hF2:∀ k,F2 k→(Value.slice ad i cap).ownBlock≠some k)(hXi:X.length=i)(hi:i<100000000)(hK1:∀ k,K1 k→w.heap.size≤k∧(Value.slice ad i cap).ownBlock≠some k)(k:∀ ad8 cap8 a8 w8,(∀ k,F2 k→(Value.slice ad8 (i+1) cap8).ownBlock≠some k)→SI (fun w'=>QJ C w e sz (.slice ad8 (i+1) cap8) (X++[cs]) (l++[x]) (fun k=>K k∨K1 k) w'∧J2 w') (fun k=>QF w (.slice ad8 (i+1) cap8) (fun k=>K k∨K1 k) k∨F2 k) ds β (xa (xa c (.slice (some ⟨w6.heap.size,0,none⟩) 1 1)) (.slice ad8 (i+1) cap8)) a8 w8→At prog Q (xa (xa c (.slice (some ⟨w6.heap.size,0,none⟩) 1 1)) (.slice ad8 (i+1) cap8)) a8 w8)(hc1:bsQ c=some (t,1,[(0,Sum.inl ev)]):=by kernel_rfl)(hc2:bltQ (xa c (.slice (some ⟨w6.heap.size,0,none⟩) 1 1))=some (.append,#[t,t],t,[Sum.inl (.slice ad i cap),Sum.inl (.slice (some ⟨w6.heap.size,0,none⟩) 1 1)]):=by kernel_rfl):At prog Q c a w6:=by
 have hRs:=((QJ.rs hC w e sz (.slice ad i cap) X l K).both (MK.rs hC K1 x cs)).both R2;refine bslQ (ss:=[(0,Sum.inl ev)]) I6 hbs ?_ hc1;have I7:=I6.alloc hRs (.cells cs.toArray e) (.slice (some ⟨w6.heap.size,0,none⟩) 1 1);obtain⟨inf,hi1,hi2,hi3,hi4⟩:=hinf;have hown7:=I7.hJ.1.1.ro.own;rw[hXi]at hown7;obtain⟨v',w8,hr8,ho8,hg8⟩:=km ht hi1 hi2 hi3 hi4 hzs hsz hby hown7 I7.hJ.1.1.ro.gr.size ⟨w6.heap.size,0,none⟩ cs (by rw[hcs,Nat.one_mul]) (xu w6 cs.toArray e) hone (by omega);obtain⟨ad8,cap8,rfl⟩:=z4 ho8
 refine appQ (ss:=[Sum.inl (.slice ad i cap),Sum.inl (.slice (some ⟨w6.heap.size,0,none⟩) 1 1)]) I7 hr8 ?_ hc2;have hXl1:(X++[cs]).length=i+1:=by simp[hXi]
 have hXf:X.flatten++cs=(X++[cs]).flatten:=by simp
 rw[hXf]at ho8;have hk7:∀ k,(K k∨K1 k)→w.heap.size≤k∧k<w6.heap.size∧(Value.slice ad i cap).ownBlock≠some k:=fun k hk=>by
  rcases hk with hk|hk
  ·exact⟨(I6.hJ.1.1.kb k hk).1,(I6.hJ.1.1.kb k hk).2.1,(I6.hJ.1.1.kb k hk).2.2⟩
  ·exact⟨(hK1 k hk).1,I6.hJ.1.2.kb k hk,(hK1 k hk).2⟩
 have hsz7:(w6.alloc (.cells cs.toArray e)).heap.size=w6.heap.size+1:=by simp
 have hblk:∀ k,(K k∨K1 k)→w8.heap[k]? = w6.heap[k]? :=fun k hk=>by
  obtain⟨h1,h2,h3⟩:=hk7 k hk;rw[hg8.gr.block k (by omega) fun e=>h3 e.symm];exact(yh w6 _).block k h2
 have hro8:RO w w.heap.size e sz (.slice ad8 (i+1) cap8) (X++[cs]).length (X++[cs]).flatten w8:=by
  have h7:=I7.hJ.1.1.ro;rw[hXi]at h7;rw[hXl1];exact h7.grown ho8 hg8
 have hinn8:∀(j:Nat) (y:List Value) (t:α),(X++[cs])[j]? = some y→(l++[x])[j]? = some t→y.length=sz∧C (fun k=>K k∨K1 k) w8 t y:=by
  intro j y t' h1 h2;have hl:=I6.hJ.1.1.len;rcases Nat.lt_or_ge j X.length with hj|hj
  ·rw[List.getElem?_append_left hj]at h1;rw[List.getElem?_append_left (by omega)]at h2;obtain⟨q1,q2⟩:=I6.hJ.1.1.inn j y t' h1 h2;exact⟨q1,hC.keep _ _ _ _ _ _ (fun k hk=>⟨.inl hk,hblk k (.inl hk)⟩) q2⟩
  ·rw[List.getElem?_append_right hj]at h1;rw[List.getElem?_append_right (by omega)]at h2;have hj0:j-X.length=0:=by
    have:=(List.getElem?_eq_some_iff.1 h1).1;simpa using this
   rw[hj0]at h1;rw[show j-l.length=0 by omega]at h2;simp only[List.getElem?_cons_zero,Option.some.injEq]at h1 h2;subst h1 h2;exact⟨hcs,hC.keep _ _ _ _ _ _ (fun k hk=>⟨.inr hk,hblk k (.inr hk)⟩) I6.hJ.1.2.c⟩
 have hF8:∀ k,F2 k→(Value.slice ad8 (i+1) cap8).ownBlock≠some k:=fun k hk e=>by
  rcases hg8.nb k e with h4|h4
  ·exact hF2 k hk h4
  ·have:=R2.lt w6 k I6.hJ.2 hk;omega
 exact k ad8 cap8 _ w8 hF8 (I7.moved ⟨hg8.gr.os,hg8.gr.tape,hg8.gr.output,hg8.gr.size,fun k hk hn=>hg8.gr.block k hk fun e=>hn (.inl (.inl (.inr (.inl e.symm))))⟩ ⟨⟨hro8,fun k hk=>by
   obtain⟨h1,h2,h3⟩:=hk7 k hk;have:=hg8.gr.size;refine⟨h1,by omega,fun e=>?_⟩;rcases hg8.nb k e with h4 | h4
   ·exact h3 h4
   ·omega,by simp[I6.hJ.1.1.len],hinn8⟩,R2.loc _ w8 I7.hJ.2 ⟨hg8.gr.os,hg8.gr.tape,hg8.gr.output,hg8.gr.size,fun k hk hF=>hg8.gr.block k hk fun e=>hF2 k hF e.symm⟩⟩ (fun k hk h=>by
   rcases h with(h|h|h|h)|h
   ·exact .inl (.inl (.inl h))
   ·rcases hg8.nb k h with h4|h4
    ·exact .inl (.inl (.inr (.inl h4)))
    ·omega
   ·exact .inl (.inl (.inr (.inr h)))
   ·exact .inl (.inr h)
   ·exact .inr h) (.slice ad8 (i+1) cap8))
abbrev roK:List Nat:=[0,2,3,4]
abbrev roV (ev ov:Value) (i:Nat):Vs:=frm 68 [(0,Sum.inl ev),(2,Sum.inr (0,0)),(3,Sum.inl ov),(4,Sum.inl (Z i))]
abbrev rzK:List Nat:=[0,2,3,4,5,6]
abbrev rzV (ev ov:Value) (i:Nat) (av:Value) (j:Nat):Vs:=frm 68 [(0,Sum.inl ev),(2,Sum.inr (0,0)),(3,Sum.inl ov),(4,Sum.inl (Z i)),(5,Sum.inl av),(6,Sum.inl (Z j))]
theorem routcome(n:Nat){w:World}{ev:Value}{l:List Ex}(h:ExI w ev l)(hp:putX l):Calls prog 96 #[ev] w (OneP (n+4) (zt (n+4) (l.map (fun x=>zt (n+3) (xt n x)))) w):=by
 obtain⟨ad0,cap0,rfl,hm⟩:=h;obtain⟨hl,hpx⟩:=hp;refine inQ (J:=QJ (CT (n+3)) w 59 7 (.slice none 0 0) [] [] noK) (F:=QF w (.slice none 0 0) noK) func96 (QJ.start _ _ _ _) fun a I=>?_;refine goQ [] (QJ.rs (CT.loc (n+3)) _ _ _ _ _ _ _) I fun β a w1 I hb=>?_
 let St:Nat→Act→World→Prop:=fun k a w'=>∃(i:Nat) (β:Nat→Nat) (u:Nat→Value) (ad:Option Addr) (cap:Nat) (X:List (List Value)) (K:Nat→Prop),k=l.length-i∧i≤l.length∧X.length=i ∧
  SI (QJ (CT (n+3)) w 59 7 (.slice ad i cap) X ((l.take i).map (fun x=>zt (n+3) (xt n x))) K) (QF w (.slice ad i cap) K) [] β (cfC (zc Tryz.f96) (zl (zg 68 roK) u 0 (roV (.slice ad0 l.length cap0) (.slice ad i cap) i)) [(0,zT7)] 1) a w'
 refine lpM (zc Tryz.f96) St l.length ?_ ?_
 ·obtain⟨u,Iu⟩:=I.scr (zc Tryz.f96) (zg 68 roK) (roV (.slice ad0 l.length cap0) (.slice none 0 0) 0) [(0,zT7)] 1;exact⟨0,β,u,none,0,[],noK,by omega,Nat.zero_le _,rfl,Iu⟩
 rintro k a3 w3 ⟨i,β3,u,ad,cap,X,K,rfl,hi,hXi,I3⟩;refine zv (tm:=zl (zg 68 roK) u 0 (roV (.slice ad0 l.length cap0) (.slice ad i cap) i)) (rows:=[(0,zT7)]) (nx:=1) ?_;rcases Nat.lt_or_ge i l.length with hil|hil
 ·obtain⟨⟨sa,al⟩,h1⟩:∃ t,l[i]? = some t:=⟨_,List.getElem?_eq_getElem hil⟩
  obtain⟨ga,offa,cs,rfl,hlt,hca,av,rfl,ada,capa,rfl,hma⟩:=hm i _ h1;obtain⟨hsa,hal,hpa⟩:=hpx _ (List.mem_of_getElem? h1);simp only[]at hca hma hsa hal hpa;obtain⟨L,hL⟩:∃ L,(l.take i).map (fun x=>zt (n+3) (xt n x))=L:=⟨_,rfl⟩
  rw[hL]at I3;have hld9:∀ w',Below w.heap.size w w'→(loadVar 9 ⟨ga,offa+i*2+0,none⟩).run prog w'=.ok (.string sa) w':=fun w' hb=>xk (hca.keep (hb.block ga hlt)) 0 rfl 9 underlying9 rfl
  have hld36:∀ w',Below w.heap.size w w'→(loadVar 45 ⟨ga,offa+i*2+1,none⟩).run prog w'=.ok (.slice ada al.length capa) w':=fun w' hb=>xk (hca.keep (hb.block ga hlt)) 1 rfl 45 underlying45 rfl
  refine goQ [lS underlying26 (ad:=some ⟨ga,offa,none⟩) (n:=l.length) (cap:=cap0) rfl,klT i l.length] (QJ.rs (CT.loc (n+3)) _ _ _ _ _ _ _) I3 fun β4 a4 w4 I4 hb4=>?_
  let St2:Nat→Act→World→Prop:=fun k a w'=>∃(j:Nat) (β:Nat→Nat) (u:Nat→Value) (ad2:Option Addr) (cap2:Nat) (X2:List (List Value)) (K2:Nat→Prop),k=al.length-j∧j≤al.length∧X2.length=j∧(∀ k,QF w (.slice ad i cap) K k→(Value.slice ad2 j cap2).ownBlock≠some k)∧(∀ k,K2 k→(Value.slice ad i cap).ownBlock≠some k) ∧
   SI (fun w'=>QJ (CT (n+1)) w 59 7 (.slice ad2 j cap2) X2 ((al.take j).map (fun a=>zt (n+1) (qo n a))) K2 w'∧QJ (CT (n+3)) w 59 7 (.slice ad i cap) X L K w') (fun k=>QF w (.slice ad2 j cap2) K2 k∨QF w (.slice ad i cap) K k) [] β (cfC (yn Tryz.f96) (zl (zg 68 rzK) u 0 (rzV (.slice (some ⟨ga,offa,none⟩) l.length cap0) (.slice ad i cap) i (.slice ad2 j cap2) j)) [(0,zT7)] 1) a w'
  refine lpM (yn Tryz.f96) St2 al.length ?_ ?_
  ·obtain⟨u',Iu⟩:=I4.scr (yn Tryz.f96) (zg 68 rzK) (rzV (.slice (some ⟨ga,offa,none⟩) l.length cap0) (.slice ad i cap) i (.slice none 0 0) 0) [(0,zT7)] 1;refine⟨0,β4,u',none,0,[],noK,by omega,Nat.zero_le _,rfl,fun k _ h=>(by cases h),fun k h=>h.elim,?_⟩;refine Iu.less ⟨(QJ.rs (CT.loc (n+1)) w 59 7 (.slice none 0 0) [] [] noK).loc w w4 (QJ.start _ _ _ _) (zi.of_below Iu.hJ.below),Iu.hJ⟩ fun k hk=>?_;rcases hk with(hk | hk | hk) | hk
   ·exact .inl hk
   ·cases hk
   ·exact hk.elim
   ·exact hk
  rintro k2 a5 w5 ⟨j,β5,u5,ad2,cap2,X2,K2,rfl,hj,hXj,hF2,hKd,I5⟩;obtain⟨L2,hL2⟩:∃ L2,(al.take j).map (fun a=>zt (n+1) (qo n a))=L2:=⟨_,rfl⟩
  rw[hL2]at I5;refine zv (tm:=zl (zg 68 rzK) u5 0 (rzV (.slice (some ⟨ga,offa,none⟩) l.length cap0) (.slice ad i cap) i (.slice ad2 j cap2) j)) (rows:=[(0,zT7)]) (nx:=1) ?_;have hTB:∀ w',QJ (CT (n+1)) w 59 7 (.slice ad2 j cap2) X2 L2 K2 w'∧QJ (CT (n+3)) w 59 7 (.slice ad i cap) X L K w'→Below w.heap.size w w':=fun w' h=>h.2.below
  rcases Nat.lt_or_ge j al.length with hjl|hjl
  ·obtain⟨⟨de,am,kd,le,ri⟩,h2⟩:∃ t,al[j]? = some t:=⟨_,List.getElem?_eq_getElem hjl⟩
   obtain⟨p1,⟨m,hkd,pm⟩,p3,p4⟩:=hpa _ (List.mem_of_getElem? h2);simp only[]at p1 hkd p3 p4;subst hkd;obtain⟨gb,offb,cs2,rfl,hlt2,hcb,rfl,ham⟩:=hma j _ h2;have hld59:∀ w',Below w.heap.size w w'→(loadVar 133 ⟨gb,offb+j*8,none⟩).run prog w'=.ok (.agg (al8 (de,am,(m:Int),le,ri)).toArray) w':=fun w' hb=>zb5 (hcb.keep (hb.block gb hlt2))
   have htk:(al.take (j+1)).map (fun a=>zt (n+1) (qo n a))=L2++[zt (n+1) (qo n (de,am,(m:Int),le,ri))]:=by rw[List.take_add_one,h2,List.map_append,hL2];rfl
   refine goT (T:=(fun w'=>QJ (CT (n+1)) w 59 7 (.slice ad2 j cap2) X2 L2 K2 w'∧QJ (CT (n+3)) w 59 7 (.slice ad i cap) X L K w')) [iA 26 underlying26 (sz:=2) (by kernel_rfl) (g:=ga) (off:=offa) (n:=l.length) (cap:=cap0) hil,ldA 45 (fun w' h=>hld36 w' (hTB w' h)),lS underlying45 (ad:=some ⟨gb,offb,none⟩) (n:=al.length) (cap:=capa) rfl,klT j al.length,iA 26 underlying26 (sz:=2) (by kernel_rfl) (g:=ga) (off:=offa) (n:=l.length) (cap:=cap0) hil,ldA 45 (fun w' h=>hld36 w' (hTB w' h)),iA 45 underlying45 (sz:=8) (by kernel_rfl) (g:=gb) (off:=offb) (n:=al.length) (cap:=capa) hjl,ldA 133 (fun w' h=>hld59 w' (hTB w' h))] ((QJ.rs (CT.loc (n+1)) _ _ _ _ _ _ _).both (QJ.rs (CT.loc (n+3)) _ _ _ _ _ _ _)) (fun _ h=>h) I5 fun β6 a6 w6 I6 hb6=>?_
   have hx1:=rbytesT de p1;have hx3:=rbytesT le p3;have hx4:=rbytesT ri p4;have hals:qo n (de,am,(m:Int),le,ri)=[yc n (rdB de),yc n am,yc n m,yc n (rdB le),yc n (rdB ri)]:=rfl;rw[hals]at htk;generalize rdB de=r1 at hx1 htk;generalize rdB le=r3 at hx3 htk;generalize rdB ri=r4 at hx4 htk
   refine dwT (T:=(fun w'=>QJ (CT (n+1)) w 59 7 (.slice ad2 j cap2) X2 L2 K2 w'∧QJ (CT (n+3)) w 59 7 (.slice ad i cap) X L K w')) 17 [kC func92 hx1,dO 59 [1] (bd_n1 am),vO 3 23 (p:=Z m) (v:=B m) (cnvB m (by omega)),kC func94 (rnumT m (Nat.lt_trans pm (by decide))),kC func92 hx3,kC func92 hx4] ((QJ.rs (CT.loc (n+1)) _ _ _ _ _ _ _).both (QJ.rs (CT.loc (n+3)) _ _ _ _ _ _ _)) (fun _ h=>h) (zd.then (zd.qk (zd.then (zd.qk zd.post)))) I6 fun a7 w7 I7=>?_
   refine bslQ (ss:=[(0,Sum.inl (nTm r1)),(1,Sum.inl (nTm am)),(2,Sum.inl (nTm m)),(3,Sum.inl (nTm r3)),(4,Sum.inl (nTm r4))]) I7 (bs_t5 (nX r1) (nX am) (nX m) (nX r3) (nX r4) w7) ?_;have I8:=I7.lay ((QJ.rs (CT.loc (n+1)) _ _ _ _ _ _ _).both (QJ.rs (CT.loc (n+3)) _ _ _ _ _ _ _)) (.cells ([tx (nX r1),tx (nX am),tx (nX m),tx (nX r3),tx (nX r4)].flatten).toArray 59) (.slice (some ⟨w7.heap.size,0,none⟩) 5 5);have hbw:=I7.hJ.2.below.size;have hown:∀ k,(Value.slice ad2 j cap2).ownBlock=some k→k<w7.heap.size:=fun k e=>(I7.hJ.1.ro.own.lt k e).2
   have hown2:∀ k,(Value.slice ad i cap).ownBlock=some k→k<w7.heap.size:=fun k e=>(I7.hJ.2.ro.own.lt k e).2
   obtain⟨b,hb2⟩:∃ b,w7.heap.size=b:=⟨_,rfl⟩
   rw[hb2]at I8 hown hown2 hbw ⊢;refine goQ [kC func93 (rlistT (some ⟨b,0,none⟩) 5 5)] (((QJ.rs (CT.loc (n+1)) _ _ _ _ _ _ _).both (QJ.rs (CT.loc (n+3)) _ _ _ _ _ _ _)).lay _ _) I8 fun β9 a9 w9 I9 hb9=>?_;have hLA:LAf (· = b) w9 (n+1) (.slice (some ⟨b,0,none⟩) 5 5) [yc n r1,yc n am,yc n m,yc n r3,yc n r4]:=by
    refine za0 (K:=(· = b)) (xs:=[nX r1,nX am,nX m,nX r3,nX r4]) (l:=[yc n r1,yc n am,yc n m,yc n r3,yc n r4]) I9.hJ.2 rfl rfl (fun i x t hx ht=>?_) 5
    match i,hx,ht with
    | 0,hx,ht=>cases hx;cases ht;exact⟨rfl,rfl,rfl,LAf.nil _ _ n⟩
    | 1,hx,ht=>cases hx;cases ht;exact⟨rfl,rfl,rfl,LAf.nil _ _ n⟩
    | 2,hx,ht=>cases hx;cases ht;exact⟨rfl,rfl,rfl,LAf.nil _ _ n⟩
    | 3,hx,ht=>cases hx;cases ht;exact⟨rfl,rfl,rfl,LAf.nil _ _ n⟩
    | 4,hx,ht=>cases hx;cases ht;exact⟨rfl,rfl,rfl,LAf.nil _ _ n⟩
   have I10:=I9.less (J':=fun w'=>(QJ (CT (n+1)) w 59 7 (.slice ad2 j cap2) X2 L2 K2 w'∧MK (CT (n+1)) (· = b) (zt (n+1) [yc n r1,yc n am,yc n m,yc n r3,yc n r4]) (tx (2,0,eB,.slice (some ⟨b,0,none⟩) 5 5)) w')∧QJ (CT (n+3)) w 59 7 (.slice ad i cap) X L K w') (F':=fun k=>(QF w (.slice ad2 j cap2) K2 k∨k=b)∨QF w (.slice ad i cap) K k) ⟨⟨I9.hJ.1.1,⟨fun k hk=>by subst hk;exact(Array.getElem?_eq_some_iff.1 I9.hJ.2).1,_,rfl,hLA⟩⟩,I9.hJ.1.2⟩ (fun k hk=>by
    rcases hk with(hk|hk)|hk
    ·exact .inl (.inl hk)
    ·exact .inr hk
    ·exact .inl (.inr hk))
   refine zcn (CT.loc (n+1)) underlying48 hI41 rfl (by decide) (by decide) (QJ.rs (CT.loc (n+3)) _ _ _ _ _ _ _) (ev:=lTm (.slice (some ⟨b,0,none⟩) 5 5)) (zaa _ _ _ _ _ _ _ w9) rfl (one7 _ _ _ _ _ _) I10 hF2 hXj (by omega) (fun k hk=>by
    subst hk;exact⟨by omega,fun e=>by have:=hown _ e;omega⟩) fun ad8 cap8 a11 w11 hF8 I11=>?_
   refine goQ [kaZ j 1 (j+1:Nat)] ((QJ.rs (CT.loc (n+1)) _ _ _ _ _ _ _).both (QJ.rs (CT.loc (n+3)) _ _ _ _ _ _ _)) I11 fun β12 a12 w12 I12 hb12=>?_;obtain⟨u',Iu⟩:=I12.scr (yn Tryz.f96) (zg 68 rzK) (rzV (.slice (some ⟨ga,offa,none⟩) l.length cap0) (.slice ad i cap) i (.slice ad8 (j+1) cap8) (j+1)) [(0,zT7)] 1;refine xc ⟨al.length-(j+1),by omega,j+1,β12,u',ad8,cap8,X2++[tx (2,0,eB,.slice (some ⟨b,0,none⟩) 5 5)],(fun k=>K2 k∨k=b),rfl,hjl,by rw[List.length_append,hXj];rfl,hF8,fun k hk=>?_,?_⟩
   ·rcases hk with hk|hk
    ·exact hKd k hk
    ·subst hk;exact fun e=>by have:=hown2 _ e;omega
   ·rw[htk];exact Iu
  ·obtain rfl:j=al.length:=by omega
   refine goT (T:=(fun w'=>QJ (CT (n+1)) w 59 7 (.slice ad2 al.length cap2) X2 L2 K2 w'∧QJ (CT (n+3)) w 59 7 (.slice ad i cap) X L K w')) [iA 26 underlying26 (sz:=2) (by kernel_rfl) (g:=ga) (off:=offa) (n:=l.length) (cap:=cap0) hil,ldA 45 (fun w' h=>hld36 w' (hTB w' h)),lS underlying45 (ad:=ada) (n:=al.length) (cap:=capa) rfl,bO .lss 3 (zf (x:=al.length) (y:=al.length) (b:=false) (by simp))] ((QJ.rs (CT.loc (n+1)) _ _ _ _ _ _ _).both (QJ.rs (CT.loc (n+3)) _ _ _ _ _ _ _)) (fun _ h=>h) I5 fun β6 a6 w6 I6 hb6=>?_;refine xg 2 ?_;have hx1:=rbytesT sa hsa
   have hexs:xt n (sa,al)=[yc (n+2) (rdB sa),zt (n+2) (al.map (fun a=>zt (n+1) (qo n a)))]:=rfl;rw[List.take_length]at hL2;have htk:(l.take (i+1)).map (fun x=>zt (n+3) (xt n x))=L++[zt (n+3) [yc (n+2) (rdB sa),zt (n+2) L2]]:=by rw[List.take_add_one,h1,List.map_append,hL,← hL2];rfl
   generalize rdB sa=r1 at hx1 htk;refine goT (T:=(fun w'=>QJ (CT (n+1)) w 59 7 (.slice ad2 al.length cap2) X2 L2 K2 w'∧QJ (CT (n+3)) w 59 7 (.slice ad i cap) X L K w')) [iA 26 underlying26 (sz:=2) (by kernel_rfl) (g:=ga) (off:=offa) (n:=l.length) (cap:=cap0) hil,ldA 9 (fun w' h=>hld9 w' (hTB w' h)),cA func92 (fun w' _=>hx1 w'),cA func93 (fun w' _=>rlistT ad2 al.length cap2 w')] ((QJ.rs (CT.loc (n+1)) _ _ _ _ _ _ _).both (QJ.rs (CT.loc (n+3)) _ _ _ _ _ _ _)) (fun _ h=>h) (I6.exit _) fun β7 a7 w7 I7 hb7=>?_
   refine bslQ (ss:=[(0,Sum.inl (nTm r1)),(1,Sum.inl (lTm (.slice ad2 al.length cap2)))]) I7 (bs_t2 (nX r1) (2,0,eB,.slice ad2 al.length cap2) w7) ?_;have I8:=I7.lay ((QJ.rs (CT.loc (n+1)) _ _ _ _ _ _ _).both (QJ.rs (CT.loc (n+3)) _ _ _ _ _ _ _)) (.cells ([tx (nX r1),tx (2,0,eB,.slice ad2 al.length cap2)].flatten).toArray 59) (.slice (some ⟨w7.heap.size,0,none⟩) 2 2);have hbw:=I7.hJ.2.below.size;have hown2:∀ k,(Value.slice ad i cap).ownBlock=some k→k<w7.heap.size:=fun k e=>(I7.hJ.2.ro.own.lt k e).2
   obtain⟨b,hb2⟩:∃ b,w7.heap.size=b:=⟨_,rfl⟩
   rw[hb2]at I8 hown2 hbw ⊢;refine goQ [kC func93 (rlistT (some ⟨b,0,none⟩) 2 2)] (((QJ.rs (CT.loc (n+1)) _ _ _ _ _ _ _).both (QJ.rs (CT.loc (n+3)) _ _ _ _ _ _ _)).lay _ _) I8 fun β9 a9 w9 I9 hb9=>?_;have hdn:=(I9.hJ.1.1.done (CT.loc (n+1))).terms;have hkb:=I9.hJ.1.1.kb2;have hLA:LAf (fun k=>(K2 k∨(Value.slice ad2 al.length cap2).ownBlock=some k)∨k=b) w9 (n+3) (.slice (some ⟨b,0,none⟩) 2 2) [yc (n+2) r1,zt (n+2) L2]:=by
    refine za0 (K:=fun k=>(K2 k∨(Value.slice ad2 al.length cap2).ownBlock=some k)∨k=b) (xs:=[nX r1,(2,0,eB,.slice ad2 al.length cap2)]) (l:=[yc (n+2) r1,zt (n+2) L2]) I9.hJ.2 (.inr rfl) rfl (fun i x t hx ht=>?_) 2
    match i,hx,ht with
    | 0,hx,ht=>cases hx;cases ht;exact⟨rfl,rfl,rfl,LAf.nil _ _ _⟩
    | 1,hx,ht=>cases hx;cases ht;exact⟨rfl,rfl,rfl,hdn.mono fun k hk=>.inl hk⟩
   have I10:=I9.less (J':=fun w'=>QJ (CT (n+3)) w 59 7 (.slice ad i cap) X L K w'∧MK (CT (n+3)) (fun k=>(K2 k∨(Value.slice ad2 al.length cap2).ownBlock=some k)∨k=b) (zt (n+3) [yc (n+2) r1,zt (n+2) L2]) (tx (2,0,eB,.slice (some ⟨b,0,none⟩) 2 2)) w') (F':=fun k=>QF w (.slice ad i cap) K k∨((K2 k∨(Value.slice ad2 al.length cap2).ownBlock=some k)∨k=b)) ⟨I9.hJ.1.2,⟨fun k hk=>by
     rcases hk with hk|hk
     ·exact(hkb k hk).2
     ·subst hk;exact(Array.getElem?_eq_some_iff.1 I9.hJ.2).1,_,rfl,hLA⟩⟩ (fun k hk=>by
    rcases hk with hk|(hk|hk)|hk
    ·exact .inl (.inr hk)
    ·exact .inl (.inl (.inr (.inr hk)))
    ·exact .inl (.inl (.inr (.inl hk)))
    ·exact .inr hk)
   refine kh (CT.loc (n+3)) underlying48 hI41 rfl (by decide) (by decide) (ev:=lTm (.slice (some ⟨b,0,none⟩) 2 2)) (zaa _ _ _ _ _ _ _ w9) rfl (one7 _ _ _ _ _ _) I10 hXi (by omega) (fun k hk=>by
    rcases hk with hk|hk
    ·refine⟨(hkb k hk).1,?_⟩;rcases hk with hk|hk
     ·exact hKd k hk
     ·exact fun e=>hF2 k (.inr (.inl e)) hk
    ·subst hk;exact⟨by omega,fun e=>by have:=hown2 _ e;omega⟩) fun ad8 cap8 a11 w11 I11=>?_
   refine goQ [kaZ i 1 (i+1:Nat)] (QJ.rs (CT.loc (n+3)) _ _ _ _ _ _ _) I11 fun β12 a12 w12 I12 hb12=>?_;obtain⟨u',Iu⟩:=I12.scr (zc Tryz.f96) (zg 68 roK) (roV (.slice (some ⟨ga,offa,none⟩) l.length cap0) (.slice ad8 (i+1) cap8) (i+1)) [(0,zT7)] 1;refine xc ⟨l.length-(i+1),by omega,i+1,β12,u',ad8,cap8,X++[tx (2,0,eB,.slice (some ⟨b,0,none⟩) 2 2)],(fun k=>K k∨((K2 k∨(Value.slice ad2 al.length cap2).ownBlock=some k)∨k=b)),rfl,hil,by rw[List.length_append,hXi];rfl,?_⟩;rw[htk];exact Iu
 ·obtain rfl:i=l.length:=by omega
  refine goQ [lS underlying26 (ad:=ad0) (n:=l.length) (cap:=cap0) rfl,bO .lss 3 (zf (x:=l.length) (y:=l.length) (b:=false) (by simp))] (QJ.rs (CT.loc (n+3)) _ _ _ _ _ _ _) I3 fun β4 a4 w4 I4 hb4=>?_;refine xg 0 ?_;refine goQ [kC func93 (rlistT ad l.length cap)] (QJ.rs (CT.loc (n+3)) _ _ _ _ _ _ _) (I4.exit _) fun β5 a5 w5 I5 hb5=>?_;rw[List.take_length]at I5;exact zh (v:=lTm (.slice ad l.length cap)) I5 ⟨I5.hJ.below,ad,l.length,cap,_,rfl,I5.hJ.kb2,(I5.hJ.done (CT.loc (n+3))).terms⟩
theorem zcu{w:World}{ev:Value}{v:Va}(h:ExI w ev v.2.2.2)(hx:okX v.2.2.2):Calls prog 25 #[vaV v ev] w fun e w'=>e=.returned (.bool (vn v))∧Below w.heap.size w w':=by
 obtain⟨tu,fi,da,xs⟩:=v;obtain⟨ad,cap,rfl⟩:=h.slice;refine inZ func25 fun a I=>?_;have hfit:vn (tu,fi,da,xs)=(decide (tu≤1099511627776)&&decide (da.size≤256)&&ql xs):=rfl;rw[hfit];by_cases q1:¬ tu≤1099511627776
 ·refine goZ [bO .leq 23 (zbv (x:=tu) (y:=1099511627776) (b:=false) (decide_eq_false q1))] I fun β a w1 I hb=>?_;exact zh (v:=.bool false) I ⟨by rw[decide_eq_false q1];rfl,I.hJ⟩
 have q1:=Classical.not_not.1 q1;by_cases q2:¬ da.size≤256
 ·refine goZ [bO .leq 23 (zbv (x:=tu) (y:=1099511627776) (b:=true) (decide_eq_true q1)),lO underlying9 (b:=da) (n:=da.size) rfl,kmF da.size 256] I fun β a w1 I hb=>?_;exact zh (v:=.bool false) I ⟨by rw[decide_eq_false q2,Bool.and_false];rfl,I.hJ⟩
 have q2:=Classical.not_not.1 q2;have hF:∀ w',Below w.heap.size w w'→Calls prog 54 #[.slice ad xs.length cap] w' fun e w''=>e=.returned (.bool (ql xs))∧Below w'.heap.size w' w'':=fun w' hb=>rfitExits_any (h.below CE.loc hb) hx.2 hx.1
 refine goT (T:=Below w.heap.size w) [bO .leq 23 (zbv (x:=tu) (y:=1099511627776) (b:=true) (decide_eq_true q1)),lO underlying9 (b:=da) (n:=da.size) rfl,kmT da.size 256,cA func54 hF] (zj w) (fun _ h=>h) I fun β a w1 I hb=>?_;exact zh (v:=.bool (ql xs)) I ⟨by rw[decide_eq_true q1,decide_eq_true q2];rfl,I.hJ⟩
theorem rvarTerms(n:Nat){w:World}{v:Va}{ev:Value}(h:ExI w ev v.2.2.2)(hp:putX v.2.2.2)(ht:v.1<M):Calls prog 64 #[vaV v ev] w (TermsP (n+5) (vaT n v) w):=by
 obtain⟨tu,fi,da,xs⟩:=v;obtain⟨ad0,cap0,rfl⟩:=h.slice;refine inZ func64 fun a I=>?_;cases fi
 ·refine goZ [] I fun β a w1 I hb=>?_;refine dwT (T:=Below w.heap.size w) 10 [kC func94 (rnumT tu ht),kC func94 (rnumT 0 (by decide)),kC func95 (rtextT da)] (zj w) (fun _ h=>h) zd.post I fun a1 w1 I=>?_;have hbw1:=I.hJ;have hsz1:=hbw1.size;refine yp (ss:=[Sum.inl (.slice ad0 xs.length cap0)]) func96 I ?_;refine(routcome n (h.below CE.loc hbw1) hp).mono fun e w2 he=>?_;obtain⟨hb2,ad,m,cap,K,rfl,hK,hLA⟩:=he;obtain⟨L,hL⟩:∃ L:TL (n+4),(xs.map fun x=>zt (n+3) (xt n x))=L:=⟨_,rfl⟩
  simp only[hL]at hLA;have I2:SI (fun w'=>Below w.heap.size w w'∧LK K w1.heap.size (n+4) (.slice ad m cap) L w') (fun k=>k<w.heap.size∨K k) [] β _ _ w2:=I.moved (zi.of_below hb2) ⟨hbw1.trans (hb2.mono hsz1),hK,hLA⟩ (fun k hk h=>by
   rcases h with h|h
   ·exact h
   ·have:=(hK k h).1;omega) (lTm (.slice ad m cap))
  refine bslQ (ss:=[(0,Sum.inl (nTm tu)),(1,Sum.inl (nTm 0)),(2,Sum.inl (tTm da)),(3,Sum.inl (lTm (.slice ad m cap)))]) I2 (bs_t4 (nX tu) (nX 0) (1,0,da,.slice none 0 0) (2,0,eB,.slice ad m cap) w2) ?_;have hsz4:=I2.hJ.1.size;have I5:=I2.lay ((zj w).both (LK.rs _ _ _ _ _)) (.cells ([tx (nX tu),tx (nX 0),tx (1,0,da,.slice none 0 0),tx (2,0,eB,.slice ad m cap)].flatten).toArray 59) (.slice (some ⟨w2.heap.size,0,none⟩) 4 4);obtain⟨b,hb4⟩:∃ b,w2.heap.size=b:=⟨_,rfl⟩
  rw[hb4]at I5 ⊢;refine goQ [] (((zj w).both (LK.rs _ _ _ _ _)).lay _ _) I5 fun β6 a6 w6 I hb6=>?_;have hJ:=I.hJ;refine zh (v:=.slice (some ⟨b,0,none⟩) 4 4) I ⟨hJ.1.1,some ⟨b,0,none⟩,4,4,(fun k=>K k∨k=b),rfl,fun k hk=>?_,?_⟩
  ·rcases hk with hk|rfl
   ·exact⟨by have:=(hJ.1.2.kb k hk).1;omega,(hJ.1.2.kb k hk).2⟩
   ·exact⟨by omega,(Array.getElem?_eq_some_iff.1 hJ.2).1⟩
  ·refine za0 (K:=fun k=>K k∨k=b) (xs:=[nX tu,nX 0,(1,0,da,.slice none 0 0),(2,0,eB,.slice ad m cap)]) (l:=vaT n (tu,false,da,xs)) hJ.2 (.inr rfl) rfl (fun i x t hx ht=>?_) 4
   match i,hx,ht with
   | 0,hx,ht=>cases hx;cases ht;exact⟨rfl,rfl,rfl,LAf.nil _ _ _⟩
   | 1,hx,ht=>cases hx;cases ht;exact⟨rfl,rfl,rfl,LAf.nil _ _ _⟩
   | 2,hx,ht=>cases hx;cases ht;exact⟨rfl,rfl,rfl,LAf.nil _ _ _⟩
   | 3,hx,ht=>
    cases hx;cases ht;refine⟨rfl,rfl,rfl,?_⟩;show LAf _ _ (n+4) (.slice ad m cap) (xs.map fun x=>zt (n+3) (xt n x));rw[hL];exact hJ.1.2.la.mono fun k hk=>.inl hk
 ·refine goZ [] I fun β a w1 I hb=>?_;refine dwT (T:=Below w.heap.size w) 10 [kC func94 (rnumT tu ht),kC func94 (rnumT 1 (by decide)),kC func95 (rtextT da)] (zj w) (fun _ h=>h) zd.post I fun a1 w1 I=>?_;have hbw1:=I.hJ;have hsz1:=hbw1.size;refine yp (ss:=[Sum.inl (.slice ad0 xs.length cap0)]) func96 I ?_;refine(routcome n (h.below CE.loc hbw1) hp).mono fun e w2 he=>?_;obtain⟨hb2,ad,m,cap,K,rfl,hK,hLA⟩:=he;obtain⟨L,hL⟩:∃ L:TL (n+4),(xs.map fun x=>zt (n+3) (xt n x))=L:=⟨_,rfl⟩
  simp only[hL]at hLA;have I2:SI (fun w'=>Below w.heap.size w w'∧LK K w1.heap.size (n+4) (.slice ad m cap) L w') (fun k=>k<w.heap.size∨K k) [] β _ _ w2:=I.moved (zi.of_below hb2) ⟨hbw1.trans (hb2.mono hsz1),hK,hLA⟩ (fun k hk h=>by
   rcases h with h|h
   ·exact h
   ·have:=(hK k h).1;omega) (lTm (.slice ad m cap))
  refine bslQ (ss:=[(0,Sum.inl (nTm tu)),(1,Sum.inl (nTm 1)),(2,Sum.inl (tTm da)),(3,Sum.inl (lTm (.slice ad m cap)))]) I2 (bs_t4 (nX tu) (nX 1) (1,0,da,.slice none 0 0) (2,0,eB,.slice ad m cap) w2) ?_;have hsz4:=I2.hJ.1.size;have I5:=I2.lay ((zj w).both (LK.rs _ _ _ _ _)) (.cells ([tx (nX tu),tx (nX 1),tx (1,0,da,.slice none 0 0),tx (2,0,eB,.slice ad m cap)].flatten).toArray 59) (.slice (some ⟨w2.heap.size,0,none⟩) 4 4);obtain⟨b,hb4⟩:∃ b,w2.heap.size=b:=⟨_,rfl⟩
  rw[hb4]at I5 ⊢;refine goQ [] (((zj w).both (LK.rs _ _ _ _ _)).lay _ _) I5 fun β6 a6 w6 I hb6=>?_;have hJ:=I.hJ;refine zh (v:=.slice (some ⟨b,0,none⟩) 4 4) I ⟨hJ.1.1,some ⟨b,0,none⟩,4,4,(fun k=>K k∨k=b),rfl,fun k hk=>?_,?_⟩
  ·rcases hk with hk|rfl
   ·exact⟨by have:=(hJ.1.2.kb k hk).1;omega,(hJ.1.2.kb k hk).2⟩
   ·exact⟨by omega,(Array.getElem?_eq_some_iff.1 hJ.2).1⟩
  ·refine za0 (K:=fun k=>K k∨k=b) (xs:=[nX tu,nX 1,(1,0,da,.slice none 0 0),(2,0,eB,.slice ad m cap)]) (l:=vaT n (tu,true,da,xs)) hJ.2 (.inr rfl) rfl (fun i x t hx ht=>?_) 4
   match i,hx,ht with
   | 0,hx,ht=>cases hx;cases ht;exact⟨rfl,rfl,rfl,LAf.nil _ _ _⟩
   | 1,hx,ht=>cases hx;cases ht;exact⟨rfl,rfl,rfl,LAf.nil _ _ _⟩
   | 2,hx,ht=>cases hx;cases ht;exact⟨rfl,rfl,rfl,LAf.nil _ _ _⟩
   | 3,hx,ht=>
    cases hx;cases ht;refine⟨rfl,rfl,rfl,?_⟩;show LAf _ _ (n+4) (.slice ad m cap) (xs.map fun x=>zt (n+3) (xt n x));rw[hL];exact hJ.1.2.la.mono fun k hk=>.inl hk
theorem rwrite{w:World}{v:Va}{ev:Value}(h:ExI w ev v.2.2.2)(hx:okX v.2.2.2)(ht:v.1<M):Calls prog 32 #[vaV v ev] w fun e w'=>e=.returned (str (wrV v))∧Below w.heap.size w w':=by
 have ha:=h.amt;obtain⟨ad,cap,hs⟩:=h.slice;subst hs;refine inZ func32 fun a I=>?_;have hF:∀ w',Below w.heap.size w w'→Calls prog 25 #[vaV v (.slice ad v.2.2.2.length cap)] w' fun e w''=>e=.returned (.bool (vn v))∧Below w'.heap.size w' w'':=fun w' hb=>zcu (h.below CE.loc hb) hx
 unfold wrV;cases hf:vn v with
 | false=>
  rw[hf]at hF;refine goT (T:=Below w.heap.size w) [cA func25 hF,uO .not (p:=.bool false) (v:=.bool true) (by intros;rfl)] (zj w) (fun _ h=>h) I fun β a w1 I hb=>?_;exact xj (v:=.string eB) I
 | true=>
  rw[hf]at hF;refine goT (T:=Below w.heap.size w) [cA func25 hF,uO .not (p:=.bool true) (v:=.bool false) (by intros;rfl)] (zj w) (fun _ h=>h) I fun β a w1 I hb=>?_;refine yp (ss:=[Sum.inl (vaV v (.slice ad v.2.2.2.length cap))]) func64 I ?_;have hsz1:=I.hJ.size;refine(rvarTerms 4 (h.below CE.loc I.hJ) (fitXs_putX (zav hf).2.2) ht).mono fun e w2 he=>?_;obtain⟨hb2,ad2,m2,cap2,K,rfl,hK,hLA⟩:=he;have hlen:=vaT_len hf ht ha;generalize vaT 4 v=ts at hLA hlen
  have I2:SI (fun w'=>Below w.heap.size w w'∧LK K w1.heap.size 9 (.slice ad2 m2 cap2) ts w') (fun k=>k<w.heap.size∨K k) [] β _ _ w2:=I.moved (zi.of_below hb2) ⟨I.hJ.trans (hb2.mono hsz1),hK,hLA⟩ (fun k hk h=>by
   rcases h with h|h
   ·exact h
   ·have:=(hK k h).1;omega) (.slice ad2 m2 cap2)
  have hE:∀ w',(Below w.heap.size w w'∧LK K w1.heap.size 9 (.slice ad2 m2 cap2) ts w')→Calls prog 30 #[.slice ad2 m2 cap2] w' fun e w''=>e=.returned (str (enc 9 ts))∧Below w'.heap.size w' w'':=fun w' hw=>zcq 9 hw.2.la.la (by omega) w' (Below.refl _ _)
  refine goT (T:=fun w'=>Below w.heap.size w w'∧LK K w1.heap.size 9 (.slice ad2 m2 cap2) ts w') [cA func30 hE] ((zj w).both (LK.rs _ _ _ _ _)) (fun _ h=>h) I2 fun β3 a3 w3 I hb3=>?_;exact zh (v:=str (enc 9 ts)) I ⟨rfl,I.hJ.1⟩
theorem rwriteFixed{w:World}{f:Fi}{pv:Value}(h:PaI w pv f.1)(hn:f.2.1<M):Calls prog 31 #[qm f pv] w fun e w'=>e=.returned (str (wrF f))∧Below w.heap.size w w':=by
 obtain⟨ad,cap,hs⟩:=h.1.slice;subst hs;refine inZ func31 fun a I=>?_;have hF:∀ w',Below w.heap.size w w'→Calls prog 24 #[qm f (.slice ad f.1.length cap)] w' fun e w''=>e=.returned (.bool (kw f))∧Below w'.heap.size w' w'':=fun w' hb=>zbe (h.below hb)
 unfold wrF;cases hf:kw f with
 | false=>
  rw[hf]at hF;refine goT (T:=Below w.heap.size w) [cA func24 hF,uO .not (p:=.bool false) (v:=.bool true) (by intros;rfl)] (zj w) (fun _ h=>h) I fun β a w1 I hb=>?_;exact xj (v:=.string eB) I
 | true=>
  rw[hf]at hF;obtain⟨p1,p2,p3,p4,m,p5,p6,p7⟩:=zbw hf;refine goT (T:=Below w.heap.size w) [cA func24 hF,uO .not (p:=.bool true) (v:=.bool false) (by intros;rfl)] (zj w) (fun _ h=>h) I fun β a w1 I hb=>?_;refine yp (ss:=[Sum.inl (qm f (.slice ad f.1.length cap))]) func63 I ?_;have hsz1:=I.hJ.size;refine(rfixedTerms 7 (h.1.below CS.loc I.hJ) (by omega) (fun s hs=>by rw[p3 s hs];decide) hn ⟨m,p5,by omega⟩).mono fun e w2 he=>?_;obtain⟨hb2,ad2,m2,cap2,K,rfl,hK,hLA⟩:=he;have hlen:=fiT_len hf hn;generalize fiT 7 f=ts at hLA hlen
  have I2:SI (fun w'=>Below w.heap.size w w'∧LK K w1.heap.size 9 (.slice ad2 m2 cap2) ts w') (fun k=>k<w.heap.size∨K k) [] β _ _ w2:=I.moved (zi.of_below hb2) ⟨I.hJ.trans (hb2.mono hsz1),hK,hLA⟩ (fun k hk h=>by
   rcases h with h|h
   ·exact h
   ·have:=(hK k h).1;omega) (.slice ad2 m2 cap2)
  have hE:∀ w',(Below w.heap.size w w'∧LK K w1.heap.size 9 (.slice ad2 m2 cap2) ts w')→Calls prog 30 #[.slice ad2 m2 cap2] w' fun e w''=>e=.returned (str (enc 9 ts))∧Below w'.heap.size w' w'':=fun w' hw=>zcq 9 hw.2.la.la (by omega) w' (Below.refl _ _)
  refine goT (T:=fun w'=>Below w.heap.size w w'∧LK K w1.heap.size 9 (.slice ad2 m2 cap2) ts w') [cA func30 hE] ((zj w).both (LK.rs _ _ _ _ _)) (fun _ h=>h) I2 fun β3 a3 w3 I hb3=>?_;exact zh (v:=str (enc 9 ts)) I ⟨rfl,I.hJ.1⟩
end Go.Proofs.YtdeompgdhaomgaaGreatDoor
