/- Out of Yh. -/
import Derived.Test.YtomdiafkoeefpaaGreatDoorKrYa
import Derived.Test.YtomdiafkoeefpaaGreatDoorKrTh
import Derived.Test.YtomdiafkoeefpaaGreatDoorKrWg
namespace Go.Proofs.YtomdiafkoeefpaaGreatDoor
open Go.RowKit Go.Sort
set_option linter.unusedVariables false
set_option maxRecDepth 100000
theorem U_small{n:Nat}(h:n<M):U n=.agg #[B n,B 0,B 0,B 0]:=by
 have e0:l0 n=n:=Nat.mod_eq_of_lt h
 unfold U
 rw[e0,show l1 n=0 by unfold l1;rw[Nat.div_eq_of_lt h];rfl,show l2 n=0 by unfold l2;rw[Nat.div_eq_of_lt (Nat.lt_of_lt_of_le h (by decide))];rfl,show l3 n=0 by unfold l3;rw[Nat.div_eq_of_lt (Nat.lt_of_lt_of_le h (by decide))];rfl]
theorem bd_Us{n:Nat}(h:n<M)(w:World):(Instr.build 33 (([0,1,2,3]:List Nat).zip [B n,B 0,B 0,B 0]).toArray).run Tryz.prog w=.ok (U n) w:=by
 rw[U_small h]
 kernel_rfl
theorem bd_n1(u:Nat)(w:World):(Instr.build 80 (([1]:List Nat).zip [U u]).toArray).run Tryz.prog w=.ok (nTm u) w:=by kernel_rfl
theorem rnumT(n:Nat)(hn:n<M)(w:World):Calls Tryz.prog 81 #[B n] w fun e w'=>e=.returned (nTm n)∧Below w.heap.size w w':=by
 refine inQ (J:=Below w.heap.size w) (F:=(· < w.heap.size)) Tryz.func81 (Below.refl _ _) fun a I=>?_
 refine goQ [dO 33 [0,1,2,3] (bd_Us hn),dO 80 [1] (bd_n1 n)] (nonR w) I fun β a w1 I hb=>?_
 exact outQ (v:=nTm n) I ⟨rfl,I.hJ⟩
theorem rtextT(s:ByteArray)(w:World):Calls Tryz.prog 82 #[.string s] w fun e w'=>e=.returned (tTm s)∧Below w.heap.size w w':=by
 refine inQ (J:=Below w.heap.size w) (F:=(· < w.heap.size)) Tryz.func82 (Below.refl _ _) fun a I=>?_
 refine goQ [dO 80 [0,2] (bd_tTm s)] (nonR w) I fun β a w1 I hb=>?_
 exact outQ (v:=tTm s) I ⟨rfl,I.hJ⟩
theorem rlistT(ad:Option Addr)(n cap:Nat)(w:World):Calls Tryz.prog 80 #[.slice ad n cap] w fun e w'=>e=.returned (lTm (.slice ad n cap))∧Below w.heap.size w w':=by
 refine inQ (J:=Below w.heap.size w) (F:=(· < w.heap.size)) Tryz.func80 (Below.refl _ _) fun a I=>?_
 refine goQ [dO 80 [0,3] (bd_lst2 ad n cap)] (nonR w) I fun β a w1 I hb=>?_
 exact outQ (v:=lTm (.slice ad n cap)) I ⟨rfl,I.hJ⟩
theorem rbytesT(s:ByteArray)(hs:s.size≤32)(w:World):Calls Tryz.prog 79 #[.string s] w fun e w'=>e=.returned (nTm (rdB s))∧Below w.heap.size w w':=by
 have hr:∀ w',Calls Tryz.prog 129 #[.string s] w' fun e w''=>e=.returned (.tuple #[U (rdB s),Z 0])∧Below w'.heap.size w' w'':=fun w'=>rread_any s hs w'
 generalize rdB s=u at hr ⊢
 refine inQ (J:=Below w.heap.size w) (F:=(· < w.heap.size)) Tryz.func79 (Below.refl _ _) fun a I=>?_
 refine goQ [kC Tryz.func129 hr,dO 80 [1] (bd_n1 u)] (nonR w) I fun β a w1 I hb=>?_
 exact outQ (v:=nTm u) I ⟨rfl,I.hJ⟩
abbrev rwK:List Nat:=[0,1,2,3,4]
abbrev rwV (fv ov:Value) (i:Nat):Vs:=frm 34 [(0,Sum.inl fv),(1,Sum.inr (0,0)),(2,Sum.inl (.slice none 0 0)),(3,Sum.inl ov),(4,Sum.inl (Z i))]
theorem rfixedTerms(n:Nat){w:World}{f:Fi}{pv:Value}(h:StI w pv f.1)(hl:f.1.length<100000000)(hp:∀ s∈f.1,s.size≤32)(hn:f.2.1<M)(ht:∃ m:Nat,f.2.2.2=m∧m<1000000000):Calls Tryz.prog 48 #[fxdV f pv] w (TermsP (n+2) (fiT n f) w):=by
 obtain ⟨ps,no,ap,ti⟩:=f
 obtain ⟨tm,rfl,htm⟩:∃ m:Nat,ti=m∧m<1000000000:=ht
 obtain ⟨ad0,cap0,rfl,hm⟩:=h
 have hn:no<M:=hn
 simp only[] at hm hl hp
 refine inQ (J:=QJ (CT n) w 80 7 (.slice none 0 0) [] [] noK) (F:=QF w (.slice none 0 0) noK) Tryz.func48 (QJ.start _ _ _ _) fun a I=>?_
 refine goQ [] (QJ.rs (CT.loc n) _ _ _ _ _ _ _) I fun β a w1 I hb=>?_
 let St:Nat→Act→World→Prop:=fun k a w'=>∃ (i:Nat) (β:Nat→Nat) (u:Nat→Value) (ad:Option Addr) (cap:Nat) (X:List (List Value)) (K:Nat→Prop),k=ps.length-i∧i≤ps.length∧X.length=i ∧
  SI (QJ (CT n) w 80 7 (.slice ad i cap) X ((ps.take i).map fun s=>numT n (rdB s)) K) (QF w (.slice ad i cap) K) [] β (cfC (bodyL Tryz.f48) (fillF (scrF 34 rwK) u 0 (rwV (.agg #[.slice ad0 ps.length cap0,B no,.string ap,Z (tm:Nat)]) (.slice ad i cap) i)) [(0,#[.slice ad0 ps.length cap0,B no,.string ap,Z (tm:Nat)])] 1) a w'
 refine lpM (bodyL Tryz.f48) St ps.length ?_ ?_
 ·obtain ⟨u,Iu⟩:=I.scr (bodyL Tryz.f48) (scrF 34 rwK) (rwV (.agg #[.slice ad0 ps.length cap0,B no,.string ap,Z (tm:Nat)]) (.slice none 0 0) 0) [(0,#[.slice ad0 ps.length cap0,B no,.string ap,Z (tm:Nat)])] 1
  exact ⟨0,β,u,none,0,[],noK,by omega,Nat.zero_le _,rfl,Iu⟩
 rintro k a3 w3 ⟨i,β3,u,ad,cap,X,K,rfl,hi,hXi,I⟩
 refine wp_cfC (tm:=fillF (scrF 34 rwK) u 0 (rwV (.agg #[.slice ad0 ps.length cap0,B no,.string ap,Z (tm:Nat)]) (.slice ad i cap) i)) (rows:=[(0,#[.slice ad0 ps.length cap0,B no,.string ap,Z (tm:Nat)])]) (nx:=1) ?_
 rcases Nat.lt_or_ge i ps.length with hil | hil
 ·obtain ⟨x,h1⟩:∃ t,ps[i]? = some t:=⟨_,List.getElem?_eq_getElem hil⟩
  obtain ⟨ga,offa,cs,rfl,hlt,hca,rfl⟩:=hm i _ h1
  have hxl:=hp x (List.mem_of_getElem? h1)
  obtain ⟨L,hL⟩:∃ L,((ps.take i).map fun s=>numT n (rdB s))=L:=⟨_,rfl⟩
  rw[hL] at I
  have hld:∀ w',QJ (CT n) w 80 7 (.slice ad i cap) X L K w'→(loadVar 9 ⟨ga,offa+i*1,none⟩).run Tryz.prog w'=.ok (.string x) w':=fun w' hb=>loadSt (hca.keep (hb.below.block ga hlt))
  have hby:∀ w',QJ (CT n) w 80 7 (.slice ad i cap) X L K w'→Calls Tryz.prog 79 #[.string x] w' fun e w''=>e=.returned (nTm (rdB x))∧Below w'.heap.size w' w'':=fun w' _=>rbytesT x hxl w'
  obtain ⟨ux,hux⟩:∃ u,rdB x=u:=⟨_,rfl⟩
  rw[hux] at hby
  refine goT (T:=QJ (CT n) w 80 7 (.slice ad i cap) X L K) [lS Tryz.underlying22 (ad:=some ⟨ga,offa,none⟩) (n:=ps.length) (cap:=cap0) rfl,bO .lss 3 (run_lssZ (x:=i) (y:=ps.length) (b:=true) (by simp;omega)),iA 22 Tryz.underlying22 (sz:=1) (by kernel_rfl) (g:=ga) (off:=offa) (n:=ps.length) (cap:=cap0) hil,ldA 9 hld,cA Tryz.func79 hby] (QJ.rs (CT.loc n) _ _ _ _ _ _ _) (fun _ h=>h) I fun β4 a4 w4 I hb4=>?_
  have I5:=I.also (J':=MK (CT n) noK (numT n ux) (tx (0,ux,eB,.slice none 0 0))) (F':=noK) ⟨fun k h=>h.elim,_,rfl,LAf.nil _ _ n⟩ (fun p hp h=>h.elim)
  refine app_gen (CT.loc n) Tryz.underlying69 hI41 rfl (by decide) (by decide) (ev:=nTm ux) (bs_term _ _ _ _ _ _ _ w4) rfl (one7 _ _ _ _ _ _) I5 hXi (by omega) (fun k h=>h.elim) fun ad8 cap8 a8 w8 I8=>?_
  refine goQ [bO .add 3 (run_addZ (x:=i) (y:=1) (z:=(i+1:Nat)) (by rw[wz (by omega) (by omega)];omega))] (QJ.rs (CT.loc n) _ _ _ _ _ _ _) I8 fun β9 a9 w9 I hb9=>?_
  obtain ⟨u',Iu⟩:=I.scr (bodyL Tryz.f48) (scrF 34 rwK) (rwV (.agg #[.slice (some ⟨ga,offa,none⟩) ps.length cap0,B no,.string ap,Z (tm:Nat)]) (.slice ad8 (i+1) cap8) (i+1)) [(0,#[.slice (some ⟨ga,offa,none⟩) ps.length cap0,B no,.string ap,Z (tm:Nat)])] 1
  have htk:(ps.take (i+1)).map (fun s=>numT n (rdB s))=L++[numT n ux]:=by rw[List.take_add_one,h1,List.map_append,hL,← hux];rfl
  refine endL ⟨ps.length-(i+1),by omega,i+1,β9,u',ad8,cap8,X++[tx (0,ux,eB,.slice none 0 0)],(fun k=>K k∨noK k),rfl,hil,by rw[List.length_append,hXi];rfl,?_⟩
  rw[htk]
  exact Iu
 ·obtain rfl:i=ps.length:=by omega
  refine goQ [lS Tryz.underlying22 (ad:=ad0) (n:=ps.length) (cap:=cap0) rfl,bO .lss 3 (run_lssZ (x:=ps.length) (y:=ps.length) (b:=false) (by simp))] (QJ.rs (CT.loc n) _ _ _ _ _ _ _) I fun β4 a4 w4 I hb4=>?_
  refine endE 0 ?_
  refine goQ [] (QJ.rs (CT.loc n) _ _ _ _ _ _ _) (I.exit _) fun β5 a5 w5 I hb5=>?_
  rw[List.take_length] at I
  obtain ⟨L,hL⟩:∃ L:TL (n+1),(ps.map fun s=>numT n (rdB s))=L:=⟨_,rfl⟩
  have hfi:fiT n (ps,no,ap,(tm:Int))=[lstT (n+1) L,numT (n+1) no,txtT (n+1) ap,numT (n+1) tm]:=by rw[← hL];rfl
  have hpl:ps.length=List.length (α:=TT n) L:=by rw[← hL];simp
  simp only[hL] at I
  rw[hfi]
  refine dwT (T:=fun _=>True) 12 [kC Tryz.func80 (rlistT ad ps.length cap),kC Tryz.func81 (rnumT no hn),kC Tryz.func82 (rtextT ap),vO 3 23 (p:=Z tm) (v:=B tm) (cnvB tm (by omega)),kC Tryz.func81 (rnumT tm (Nat.lt_trans htm (by decide)))] (QJ.rs (CT.loc n) _ _ _ _ _ _ _) (fun _ _=>trivial) PanOk.post I fun a6 w6 I=>?_
  refine bslQ (ss:=[(0,Sum.inl (lTm (.slice ad ps.length cap))),(1,Sum.inl (nTm no)),(2,Sum.inl (tTm ap)),(3,Sum.inl (nTm tm))]) I (bs_t4 (2,0,eB,.slice ad ps.length cap) (nX no) (1,0,ap,.slice none 0 0) (nX tm) w6) ?_
  have I3:=I.lay (QJ.rs (CT.loc n) _ _ _ _ _ _ _) (.cells ([tx (2,0,eB,.slice ad ps.length cap),tx (nX no),tx (1,0,ap,.slice none 0 0),tx (nX tm)].flatten).toArray 80) (.slice (some ⟨w6.heap.size,0,none⟩) 4 4)
  obtain ⟨b,hb2⟩:∃ b,w6.heap.size=b:=⟨_,rfl⟩
  have hbw:=I.hJ.below.size
  rw[hb2] at I3 ⊢
  refine goQ [] (((QJ.rs (CT.loc n) _ _ _ _ _ _ _)).lay _ _) I3 fun β7 a7 w7 I hb7=>?_
  have hdn:=(I.hJ.1.done (CT.loc n)).terms
  have hkb:=I.hJ.1.kb2
  have hbl:b<w7.heap.size:=(Array.getElem?_eq_some_iff.1 I.hJ.2).1
  refine outQ (v:=.slice (some ⟨b,0,none⟩) 4 4) I ⟨I.hJ.1.below,some ⟨b,0,none⟩,4,4,(fun k=>(K k∨(Value.slice ad ps.length cap).ownBlock=some k)∨k=b),rfl,fun k hk=>?_,?_⟩
  ·rcases hk with hk | hk
   ·exact hkb k hk
   ·subst hk;exact ⟨by omega,hbl⟩
  ·refine blockT (K:=fun k=>(K k∨(Value.slice ad ps.length cap).ownBlock=some k)∨k=b) (xs:=[(2,0,eB,.slice ad ps.length cap),nX no,(1,0,ap,.slice none 0 0),nX tm]) (l:=[lstT (n+1) L,numT (n+1) no,txtT (n+1) ap,numT (n+1) tm]) I.hJ.2 (.inr rfl) rfl (fun i x t hx ht=>?_) 4
   match i,hx,ht with
   | 0,hx,ht=>cases hx;cases ht;exact ⟨rfl,rfl,rfl,hdn.mono fun k hk=>.inl hk⟩
   | 1,hx,ht=>cases hx;cases ht;exact ⟨rfl,rfl,rfl,LAf.nil _ _ _⟩
   | 2,hx,ht=>cases hx;cases ht;exact ⟨rfl,rfl,rfl,LAf.nil _ _ _⟩
   | 3,hx,ht=>cases hx;cases ht;exact ⟨rfl,rfl,rfl,LAf.nil _ _ _⟩
end Go.Proofs.YtomdiafkoeefpaaGreatDoor
