/- Out of Mc. -/
import Derived.Test.YtdeompgdhaomgaaGreatDoorKtMb
namespace Go.Proofs.YtdeompgdhaomgaaGreatDoor
open Go.RowKit Go.Sort Go.Proofs.Tryz
set_option linter.unusedVariables false
set_option maxRecDepth 100000
set_option maxHeartbeats 4000000
abbrev mcK:List Nat:=[0,1,2,3,4]
abbrev mcV (mv ov:Value) (i:Nat):Vs:=frm 40 [(0,Sum.inl mv),(1,Sum.inr (0,0)),(2,Sum.inl (.string eB)),(3,Sum.inl ov),(4,Sum.inl (Z i))]
theorem rmwrite_any{w:World}{pv ev sv:Value}{f:Fi}{v:Va}{l:List Se}(h:MlI w pv ev sv f v l):Calls prog 13 #[mlV f v pv ev sv] w fun e w'=>e=.returned (str (wrM f v l))∧Below w.heap.size w w':=by
 have hF:∀ w',Below w.heap.size w w'→Calls prog 11 #[mlV f v pv ev sv] w' fun e w''=>e=.returned (.bool (fitM f v l))∧Below w'.heap.size w' w'':=fun w' hb=>rmfit_any (h.below hb)
 obtain⟨adp,capp,rfl⟩:=h.pf.1.slice;obtain⟨ade,cape,rfl⟩:=h.xf.slice;have hln:=h.ln;obtain⟨ad0,cap0,rfl,hm⟩:=id h.sf;have hWF:∀ w',Below w.heap.size w w'→Calls prog 31 #[qm f (.slice adp f.1.length capp)] w' fun e w''=>e=.returned (str (wrF f))∧Below w'.heap.size w' w'':=fun w' hb=>rwriteFixed (h.pf.below hb) h.nf
 have hWV:∀ w',Below w.heap.size w w'→Calls prog 32 #[vaV v (.slice ade v.2.2.2.length cape)] w' fun e w''=>e=.returned (str (wrV v))∧Below w'.heap.size w' w'':=fun w' hb=>rwrite (h.xf.below CE.loc hb) h.ok h.nv
 have hwr:wrM f v l=if fitM f v l=true then enc 9 (mlT f v l)else []:=rfl
 have hlen:fitM f v l=true→(enc 9 (mlT f v l)).length≤25000:=fun hf=>mlT_w (fitM_len hf).2.2.2
 rw[hwr];have hml:mlT f v l=[yj 8 (bA (wrF f)),yj 8 (bA (wrV v)),zt 8 (l.map (seT 7))]:=rfl;rw[hml]at hlen ⊢;generalize wrF f=SF at hWF hlen ⊢;generalize wrV v=SV at hWV hlen ⊢;generalize fitM f v l=bf at hF hlen ⊢;clear hml hwr;obtain⟨ps,no,ap,ti⟩:=f;obtain⟨tu,fi,da,xs⟩:=v;simp only[]at hWF hWV hF ⊢;refine inQ (J:=QJ (CT 7) w 59 7 (.slice none 0 0) [] [] noK) (F:=QF w (.slice none 0 0) noK) func13 (QJ.start _ _ _ _) fun a I=>?_;cases bf with
 | false=>
  refine goT (T:=Below w.heap.size w) [cA func11 hF,uO .not (p:=.bool false) (v:=.bool true) (by intros;rfl)] (QJ.rs (CT.loc 7) _ _ _ _ _ _ _) (fun _ h=>h.below) I fun β a w1 I hb=>?_;exact zh (v:=.string eB) I ⟨rfl,I.hJ.below⟩
 | true=>
 refine goT (T:=Below w.heap.size w) [cA func11 hF,uO .not (p:=.bool true) (v:=.bool false) (by intros;rfl)] (QJ.rs (CT.loc 7) _ _ _ _ _ _ _) (fun _ h=>h.below) I fun β a w1 I hb=>?_;have hlen:=hlen rfl
 let St:Nat→Act→World→Prop:=fun k a w'=>∃(i:Nat) (β:Nat→Nat) (u:Nat→Value) (ad:Option Addr) (cap:Nat) (X:List (List Value)) (K:Nat→Prop),k=l.length-i∧i≤l.length∧X.length=i ∧
  SI (QJ (CT 7) w 59 7 (.slice ad i cap) X ((l.take i).map (seT 7)) K) (QF w (.slice ad i cap) K) [] β (cfC (zc Tryz.f13) (zl (zg 40 mcK) u 0 (mcV (mlV (ps,no,ap,ti) (tu,fi,da,xs) (.slice adp ps.length capp) (.slice ade xs.length cape) (.slice ad0 l.length cap0)) (.slice ad i cap) i)) [(0,mlR (ps,no,ap,ti) (tu,fi,da,xs) (.slice adp ps.length capp) (.slice ade xs.length cape) (.slice ad0 l.length cap0))] 1) a w'
 refine lpM (zc Tryz.f13) St l.length ?_ ?_
 ·obtain⟨u,Iu⟩:=I.scr (zc Tryz.f13) (zg 40 mcK) (mcV (mlV (ps,no,ap,ti) (tu,fi,da,xs) (.slice adp ps.length capp) (.slice ade xs.length cape) (.slice ad0 l.length cap0)) (.slice none 0 0) 0) [(0,mlR (ps,no,ap,ti) (tu,fi,da,xs) (.slice adp ps.length capp) (.slice ade xs.length cape) (.slice ad0 l.length cap0))] 1;exact⟨0,β,u,none,0,[],noK,by omega,Nat.zero_le _,rfl,Iu⟩
 rintro k a3 w3 ⟨i,β3,u,ad,cap,X,K,rfl,hi,hXi,I⟩;refine zv (tm:=zl (zg 40 mcK) u 0 (mcV (mlV (ps,no,ap,ti) (tu,fi,da,xs) (.slice adp ps.length capp) (.slice ade xs.length cape) (.slice ad0 l.length cap0)) (.slice ad i cap) i)) (rows:=[(0,mlR (ps,no,ap,ti) (tu,fi,da,xs) (.slice adp ps.length capp) (.slice ade xs.length cape) (.slice ad0 l.length cap0))]) (nx:=1) ?_;rcases Nat.lt_or_ge i l.length with hil|hil
 ·obtain⟨x,h1⟩:∃ t,l[i]? = some t:=⟨_,List.getElem?_eq_getElem hil⟩
  obtain⟨ga,offa,cs,rfl,hlt,hca,rfl,hx1,hx2⟩:=hm i _ h1;obtain⟨L,hL⟩:∃ L,((l.take i).map (seT 7))=L:=⟨_,rfl⟩
  rw[hL]at I;have hld:∀ w',QJ (CT 7) w 59 7 (.slice ad i cap) X L K w'→(loadVar 63 ⟨ga,offa+i*9,none⟩).run prog w'=.ok (slV x) w':=fun w' hb=>loadSe (hca.keep (hb.below.block ga hlt))
  have hsw:∀ w',Calls prog 29 #[slV x] w' fun e w''=>e=.returned (str (wrS x))∧Below w'.heap.size w' w'':=fun w'=>rswrite_any x w'
  obtain⟨S,hS⟩:∃ S,wrS x=S:=⟨_,rfl⟩
  rw[hS]at hsw;obtain⟨r,q,o⟩:=x;refine goT (T:=QJ (CT 7) w 59 7 (.slice ad i cap) X L K) [lS underlying29 (ad:=some ⟨ga,offa,none⟩) (n:=l.length) (cap:=cap0) rfl,klT i l.length,iA 29 underlying29 (sz:=9) (by kernel_rfl) (g:=ga) (off:=offa) (n:=l.length) (cap:=cap0) hil,ldA 63 hld,kC func29 hsw,kC func28 (rmtext_any (bA S))] (QJ.rs (CT.loc 7) _ _ _ _ _ _ _) (fun _ h=>h) I fun β4 a4 w4 I hb4=>?_;have I5:=I.also (J':=MK (CT 7) noK (yj 7 (bA S)) (tx (1,0,bA S,.slice none 0 0))) (F':=noK) ⟨fun k h=>h.elim,_,rfl,LAf.nil _ _ 7⟩ (fun p hp h=>h.elim)
  refine kh (CT.loc 7) underlying48 hI41 rfl (by decide) (by decide) (ev:=tTm (bA S)) (zaa _ _ _ _ _ _ _ w4) rfl (one7 _ _ _ _ _ _) I5 hXi (by omega) (fun k h=>h.elim) fun ad8 cap8 a8 w8 I8=>?_;refine goQ [kaZ i 1 (i+1:Nat)] (QJ.rs (CT.loc 7) _ _ _ _ _ _ _) I8 fun β9 a9 w9 I hb9=>?_
  obtain⟨u',Iu⟩:=I.scr (zc Tryz.f13) (zg 40 mcK) (mcV (mlV (ps,no,ap,ti) (tu,fi,da,xs) (.slice adp ps.length capp) (.slice ade xs.length cape) (.slice (some ⟨ga,offa,none⟩) l.length cap0)) (.slice ad8 (i+1) cap8) (i+1)) [(0,mlR (ps,no,ap,ti) (tu,fi,da,xs) (.slice adp ps.length capp) (.slice ade xs.length cape) (.slice (some ⟨ga,offa,none⟩) l.length cap0))] 1;have htk:(l.take (i+1)).map (seT 7)=L++[yj 7 (bA S)]:=by rw[List.take_add_one,h1,List.map_append,hL,← hS];rfl
  refine xc ⟨l.length-(i+1),by omega,i+1,β9,u',ad8,cap8,X++[tx (1,0,bA S,.slice none 0 0)],(fun k=>K k∨noK k),rfl,hil,by rw[List.length_append,hXi];rfl,?_⟩;rw[htk];exact Iu
 ·obtain rfl:i=l.length:=by omega
  refine goQ [lS underlying29 (ad:=ad0) (n:=l.length) (cap:=cap0) rfl,bO .lss 3 (zf (x:=l.length) (y:=l.length) (b:=false) (by simp))] (QJ.rs (CT.loc 7) _ _ _ _ _ _ _) I fun β4 a4 w4 I hb4=>?_;refine xg 0 ?_;refine goQ [] (QJ.rs (CT.loc 7) _ _ _ _ _ _ _) (I.exit _) fun β5 a5 w5 I hb5=>?_;rw[List.take_length]at I;obtain⟨L,hL⟩:∃ L:TL 8,(l.map (seT 7))=L:=⟨_,rfl⟩
  rw[hL]at I hlen ⊢;refine dwT (T:=Below w.heap.size w) 11 [cA func31 hWF,kC func28 (rmtext_any (bA SF)),cA func32 hWV,kC func28 (rmtext_any (bA SV)),dO 59 [0,3] (bd_lst2 ad l.length cap)] (QJ.rs (CT.loc 7) _ _ _ _ _ _ _) (fun _ h=>h.below) zd.post I fun a6 w6 I=>?_;refine bslQ (ss:=[(0,Sum.inl (tTm (bA SF))),(1,Sum.inl (tTm (bA SV))),(2,Sum.inl (lTm (.slice ad l.length cap)))]) I (bs_t3 (1,0,bA SF,.slice none 0 0) (1,0,bA SV,.slice none 0 0) (2,0,eB,.slice ad l.length cap) w6) ?_
  have I3:=I.lay (QJ.rs (CT.loc 7) _ _ _ _ _ _ _) (.cells ([tx (1,0,bA SF,.slice none 0 0),tx (1,0,bA SV,.slice none 0 0),tx (2,0,eB,.slice ad l.length cap)].flatten).toArray 59) (.slice (some ⟨w6.heap.size,0,none⟩) 3 3);obtain⟨b,hb2⟩:∃ b,w6.heap.size=b:=⟨_,rfl⟩
  have hbw:=I.hJ.below.size;rw[hb2]at I3 ⊢;have hE:∀ w',(QJ (CT 7) w 59 7 (.slice ad l.length cap) X L K w'∧w'.heap[b]? = some (.cells ([tx (1,0,bA SF,.slice none 0 0),tx (1,0,bA SV,.slice none 0 0),tx (2,0,eB,.slice ad l.length cap)].flatten).toArray 59))→Calls prog 30 #[.slice (some ⟨b,0,none⟩) 3 3] w' fun e w''=>e=.returned (str (enc 9 [yj 8 (bA SF),yj 8 (bA SV),zt 8 L]))∧Below w'.heap.size w' w'':=fun w' hJ=>by
   have hdn:=(hJ.1.done (CT.loc 7)).terms;have hla:LAf (fun k=>(K k∨(Value.slice ad l.length cap).ownBlock=some k)∨k=b) w' 9 (.slice (some ⟨b,0,none⟩) 3 3) [yj 8 (bA SF),yj 8 (bA SV),zt 8 L]:=by
    refine za0 (K:=fun k=>(K k∨(Value.slice ad l.length cap).ownBlock=some k)∨k=b) (xs:=[(1,0,bA SF,.slice none 0 0),(1,0,bA SV,.slice none 0 0),(2,0,eB,.slice ad l.length cap)]) (l:=[yj 8 (bA SF),yj 8 (bA SV),zt 8 L]) hJ.2 (.inr rfl) rfl (fun i x t hx ht=>?_) 3
    match i,hx,ht with
    | 0,hx,ht=>cases hx;cases ht;exact⟨rfl,rfl,rfl,LAf.nil _ _ _⟩
    | 1,hx,ht=>cases hx;cases ht;exact⟨rfl,rfl,rfl,LAf.nil _ _ _⟩
    | 2,hx,ht=>cases hx;cases ht;exact⟨rfl,rfl,rfl,hdn.mono fun k hk=>.inl hk⟩
   exact zcq 9 hla.la (by omega) w' (Below.refl _ _)
  generalize enc 9 [yj 8 (bA SF),yj 8 (bA SV),zt 8 L]=out at hE ⊢;refine goT (T:=fun w'=>(QJ (CT 7) w 59 7 (.slice ad l.length cap) X L K w'∧w'.heap[b]? = some (.cells ([tx (1,0,bA SF,.slice none 0 0),tx (1,0,bA SV,.slice none 0 0),tx (2,0,eB,.slice ad l.length cap)].flatten).toArray 59))) [cA func30 hE] (((QJ.rs (CT.loc 7) _ _ _ _ _ _ _)).lay _ _) (fun _ h=>h) I3 fun β7 a7 w7 I hb7=>?_;exact zh (v:=str out) I ⟨rfl,I.hJ.1.below⟩
end Go.Proofs.YtdeompgdhaomgaaGreatDoor
