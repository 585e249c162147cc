/- Out of Mb. -/
import Derived.Test.YtdeompgdhaomgaaGreatDoorKtMa
import Derived.Test.YtdeompgdhaomgaaGreatDoorKtYh
namespace Go.Proofs.YtdeompgdhaomgaaGreatDoor
open Go.RowKit Go.Sort Go.Proofs.Tryz
set_option linter.unusedVariables false
set_option maxRecDepth 100000
set_option maxHeartbeats 4000000
def CZ:Cl Se:=fun K w s cs=>cs=sl9 s∧s.1<W∧s.2.1<W
theorem CZ.loc:Loc CZ:=⟨fun _ _ _ _ _ _ _ h=>h⟩
abbrev SeI (w:World) (v:Value) (l:List Se):Prop:=SlI 9 CZ (· < w.heap.size) w v l
theorem loadSe{w:World}{g o:Nat}{s:Se}(h:zo w g o (sl9 s)):(loadVar 63 ⟨g,o,none⟩).run prog w=.ok (slV s) w:=loadN underlying63 rfl (n:=9) (by kernel_rfl) rfl h
abbrev mlV (f:Fi) (v:Va) (pv ev sv:Value):Value:=.agg #[pv,B f.2.1,.string f.2.2.1,Z f.2.2.2,B v.1,.bool v.2.1,.string v.2.2.1,ev,sv]
abbrev mlR (f:Fi) (v:Va) (pv ev sv:Value):Array Value:=#[pv,B f.2.1,.string f.2.2.1,Z f.2.2.2,B v.1,.bool v.2.1,.string v.2.2.1,ev,sv]
structure MlI (w:World) (pv ev sv:Value) (f:Fi) (v:Va) (l:List Se):Prop where
 pf:PaI w pv f.1
 xf:ExI w ev v.2.2.2
 sf:SeI w sv l
 nf:f.2.1<M
 nv:v.1<M
 ok:okX v.2.2.2
 ln:l.length<100000000
theorem MlI.below{w w':World}{pv ev sv:Value}{f:Fi}{v:Va}{l:List Se}(h:MlI w pv ev sv f v l)(hb:Below w.heap.size w w'):MlI w' pv ev sv f v l:=⟨h.pf.below hb,h.xf.below CE.loc hb,h.sf.below CZ.loc hb,h.nf,h.nv,h.ok,h.ln⟩
def fitM (f:Fi) (v:Va) (l:List Se):Bool:=kw f&&vn v&&decide (1≤l.length)&&decide (l.length≤4)
theorem mfit_any{w:World}{pv ev sv:Value}{f:Fi}{v:Va}{l:List Se}(h:MlI w pv ev sv f v l):Calls prog 10 #[mlV f v pv ev sv] w fun e w'=>e=.returned (.bool (fitM f v l))∧Below w.heap.size w w':=by
 obtain⟨adp,capp,rfl⟩:=h.pf.1.slice;obtain⟨ade,cape,rfl⟩:=h.xf.slice;obtain⟨ads,caps,rfl⟩:=h.sf.slice;have hF:∀ w',Below w.heap.size w w'→Calls prog 22 #[qm f (.slice adp f.1.length capp)] w' fun e w''=>e=.returned (.bool (kw f))∧Below w'.heap.size w' w'':=fun w' hb=>fitFixed_any (h.pf.below hb)
 have hV:∀ w',Below w.heap.size w w'→Calls prog 23 #[vaV v (.slice ade v.2.2.2.length cape)] w' fun e w''=>e=.returned (.bool (vn v))∧Below w'.heap.size w' w'':=fun w' hb=>fitVar_any (h.xf.below CE.loc hb) h.ok
 have hfit:fitM f v l=(kw f&&vn v&&decide (1≤l.length)&&decide (l.length≤4)):=rfl;rw[hfit];have hln:=h.ln;generalize kw f=b1 at hF ⊢;generalize vn v=b2 at hV ⊢;refine inZ func10 fun a I=>?_;refine goZ [lS underlying29 (ad:=ads) (n:=l.length) (cap:=caps) rfl] I fun β a w1 I hb=>?_;cases b1 with
 | false=>
  refine goT (T:=Below w.heap.size w) [cA func22 hF] (zj w) (fun _ h=>h) I fun β a w1 I hb=>?_;exact xj (v:=.bool false) I
 | true=>
  cases b2 with
  | false=>
   refine goT (T:=Below w.heap.size w) [cA func22 hF,cA func23 hV] (zj w) (fun _ h=>h) I fun β a w1 I hb=>?_;exact xj (v:=.bool false) I
  | true=>
   by_cases q1:¬ 1≤l.length
   ·refine goT (T:=Below w.heap.size w) [cA func22 hF,cA func23 hV,kmF 1 l.length] (zj w) (fun _ h=>h) I fun β a w1 I hb=>?_;exact zh (v:=.bool false) I ⟨by rw[decide_eq_false q1];rfl,I.hJ⟩
   have q1:=Classical.not_not.1 q1;have q2:decide ((l.length:Int)≤4)=decide (l.length≤4):=by
    by_cases q:l.length≤4
    ·rw[decide_eq_true q,decide_eq_true (by omega)]
    ·rw[decide_eq_false q,decide_eq_false (by omega)]
   refine goT (T:=Below w.heap.size w) [cA func22 hF,cA func23 hV,kmT 1 l.length,bO .leq 3 (ve (x:=l.length) (y:=4) (b:=decide (l.length≤4)) q2)] (zj w) (fun _ h=>h) I fun β a w1 I hb=>?_;exact zh (v:=.bool (decide (l.length≤4))) I ⟨by rw[decide_eq_true q1];rfl,I.hJ⟩
theorem rmfit_any{w:World}{pv ev sv:Value}{f:Fi}{v:Va}{l:List Se}(h:MlI w pv ev sv f v l):Calls prog 11 #[mlV f v pv ev sv] w fun e w'=>e=.returned (.bool (fitM f v l))∧Below w.heap.size w w':=by
 obtain⟨adp,capp,rfl⟩:=h.pf.1.slice;obtain⟨ade,cape,rfl⟩:=h.xf.slice;obtain⟨ads,caps,rfl⟩:=h.sf.slice;have hF:∀ w',Below w.heap.size w w'→Calls prog 24 #[qm f (.slice adp f.1.length capp)] w' fun e w''=>e=.returned (.bool (kw f))∧Below w'.heap.size w' w'':=fun w' hb=>zbe (h.pf.below hb)
 have hV:∀ w',Below w.heap.size w w'→Calls prog 25 #[vaV v (.slice ade v.2.2.2.length cape)] w' fun e w''=>e=.returned (.bool (vn v))∧Below w'.heap.size w' w'':=fun w' hb=>zcu (h.xf.below CE.loc hb) h.ok
 have hfit:fitM f v l=(kw f&&vn v&&decide (1≤l.length)&&decide (l.length≤4)):=rfl;rw[hfit];have hln:=h.ln;generalize kw f=b1 at hF ⊢;generalize vn v=b2 at hV ⊢;refine inZ func11 fun a I=>?_;refine goZ [lS underlying29 (ad:=ads) (n:=l.length) (cap:=caps) rfl] I fun β a w1 I hb=>?_;cases b1 with
 | false=>
  refine goT (T:=Below w.heap.size w) [cA func24 hF] (zj w) (fun _ h=>h) I fun β a w1 I hb=>?_;exact xj (v:=.bool false) I
 | true=>
  cases b2 with
  | false=>
   refine goT (T:=Below w.heap.size w) [cA func24 hF,cA func25 hV] (zj w) (fun _ h=>h) I fun β a w1 I hb=>?_;exact xj (v:=.bool false) I
  | true=>
   by_cases q1:¬ 1≤l.length
   ·refine goT (T:=Below w.heap.size w) [cA func24 hF,cA func25 hV,khF l.length 1] (zj w) (fun _ h=>h) I fun β a w1 I hb=>?_;exact zh (v:=.bool false) I ⟨by rw[decide_eq_false q1];rfl,I.hJ⟩
   have q1:=Classical.not_not.1 q1;have q2:decide ((l.length:Int)≤4)=decide (l.length≤4):=by
    by_cases q:l.length≤4
    ·rw[decide_eq_true q,decide_eq_true (by omega)]
    ·rw[decide_eq_false q,decide_eq_false (by omega)]
   refine goT (T:=Below w.heap.size w) [cA func24 hF,cA func25 hV,khT l.length 1,bO .leq 3 (ve (x:=l.length) (y:=4) (b:=decide (l.length≤4)) q2)] (zj w) (fun _ h=>h) I fun β a w1 I hb=>?_;exact zh (v:=.bool (decide (l.length≤4))) I ⟨by rw[decide_eq_true q1];rfl,I.hJ⟩
theorem mtext_any(s:ByteArray):RT 56 #[.string s] (tTm s):=by
 refine fun w=>inZ func56 fun a I=>?_;refine goZ [dO 59 [0,2] (bd_tTm s)] I fun β a w1 I hb=>?_;exact xj (v:=tTm s) I
theorem rmtext_any(s:ByteArray):RT 28 #[.string s] (tTm s):=by
 refine fun w=>inZ func28 fun a I=>?_;refine goZ [dO 59 [0,2] (bd_tTm s)] I fun β a w1 I hb=>?_;exact xj (v:=tTm s) I
abbrev bA (l:List UInt8):ByteArray:=⟨l.toArray⟩
abbrev seT (n:Nat) (s:Se):TT n:=yj n (bA (wrS s))
def mlT (f:Fi) (v:Va) (l:List Se):TL 9:=[yj 8 (bA (wrF f)),yj 8 (bA (wrV v)),zt 8 (l.map (seT 7))]
theorem mlT_w{f:Fi}{v:Va}{l:List Se}(hl:l.length≤4):(enc 9 (mlT f v l)).length≤25000:=by
 have key:wgt 8 (l.map (seT 7))≤768:=by
  have hsum:((l.map (seT 7)).map fun t:TT 7=>127+t.2.2.1.size+wgt 7 t.2.2.2).sum≤(l.map (seT 7)).length*192:=qx fun t ht=>by
   obtain⟨s,hs,rfl⟩:=List.mem_map.1 ht;show 127+(bA (wrS s)).size+wgt 7 (yf 7)≤192;rw[zb8,zn,wrS_len];decide
  rw[List.length_map]at hsum;exact Nat.le_trans hsum (by omega)
 refine Nat.le_trans (enc_wgt 9 (mlT f v l)) ?_;show(127+(bA (wrF f)).size+wgt 8 (yf 8))+((127+(bA (wrV v)).size+wgt 8 (yf 8))+((127+eB.size+wgt 8 (l.map (seT 7)))+0))≤25000;have h1:=wrF_w f;have h2:=wrV_w v;rw[zb8,zbc,zn,zn];omega
theorem bs_t3(x y z:Tx)(w:World):(Instr.buildSlice 48 3 #[(0,.agg (tx x).toArray),(1,.agg (tx y).toArray),(2,.agg (tx z).toArray)]).run prog w=.ok (.slice (some ⟨w.heap.size,0,none⟩) 3 3) (w.alloc (.cells ([tx x,tx y,tx z].flatten).toArray 59)):=by
 kernel_rfl
abbrev mtK:List Nat:=[0,1,2,3,8,9,10]
abbrev mtV (mv sv ov:Value) (n i:Nat):Vs:=frm 33 [(0,Sum.inl mv),(1,Sum.inr (0,0)),(2,Sum.inl (.slice none 0 0)),(3,Sum.inl ov),(8,Sum.inl sv),(9,Sum.inl (Z n)),(10,Sum.inl (Z i))]
theorem mterms_any{w:World}{pv ev sv:Value}{f:Fi}{v:Va}{l:List Se}(h:MlI w pv ev sv f v l):Calls prog 27 #[mlV f v pv ev sv] w (TermsP 9 (mlT f v l) w):=by
 obtain⟨adp,capp,rfl⟩:=h.pf.1.slice;obtain⟨ade,cape,rfl⟩:=h.xf.slice;have hln:=h.ln;obtain⟨ad0,cap0,rfl,hm⟩:=id h.sf;have hWF:∀ w',Below w.heap.size w w'→Calls prog 58 #[qm f (.slice adp f.1.length capp)] w' fun e w''=>e=.returned (str (wrF f))∧Below w'.heap.size w' w'':=fun w' hb=>zcs (h.pf.below hb) h.nf
 have hWV:∀ w',Below w.heap.size w w'→Calls prog 59 #[vaV v (.slice ade v.2.2.2.length cape)] w' fun e w''=>e=.returned (str (wrV v))∧Below w'.heap.size w' w'':=fun w' hb=>write_any (h.xf.below CE.loc hb) h.ok h.nv
 have hml:mlT f v l=[yj 8 (bA (wrF f)),yj 8 (bA (wrV v)),zt 8 (l.map (seT 7))]:=rfl;rw[hml];generalize wrF f=SF at hWF ⊢;generalize wrV v=SV at hWV ⊢;obtain⟨ps,no,ap,ti⟩:=f;obtain⟨tu,fi,da,xs⟩:=v;simp only[]at hWF hWV ⊢;refine inQ (J:=QJ (CT 7) w 59 7 (.slice none 0 0) [] [] noK) (F:=QF w (.slice none 0 0) noK) func27 (QJ.start _ _ _ _) fun a I=>?_;refine goQ [lS underlying29 (ad:=ad0) (n:=l.length) (cap:=cap0) rfl] (QJ.rs (CT.loc 7) _ _ _ _ _ _ _) I fun β a w1 I hb=>?_
 obtain⟨mv,hmv⟩:∃ mv,mv=mlV (ps,no,ap,ti) (tu,fi,da,xs) (.slice adp ps.length capp) (.slice ade xs.length cape) (.slice ad0 l.length cap0):=⟨_,rfl⟩
 obtain⟨mr,hmr⟩:∃ mr,mr=mlR (ps,no,ap,ti) (tu,fi,da,xs) (.slice adp ps.length capp) (.slice ade xs.length cape) (.slice ad0 l.length cap0):=⟨_,rfl⟩
 let St:Nat→Act→World→Prop:=fun k a w'=>∃(i:Nat) (β:Nat→Nat) (u:Nat→Value) (ad:Option Addr) (cap:Nat) (X:List (List Value)) (K:Nat→Prop),k=l.length-i∧i≤l.length∧X.length=i ∧
  SI (QJ (CT 7) w 59 7 (.slice ad i cap) X ((l.take i).map (seT 7)) K) (QF w (.slice ad i cap) K) [] β (cfC (zc Tryz.f27) (zl (zg 33 mtK) u 0 (mtV (mlV (ps,no,ap,ti) (tu,fi,da,xs) (.slice adp ps.length capp) (.slice ade xs.length cape) (.slice ad0 l.length cap0)) (.slice ad0 l.length cap0) (.slice ad i cap) l.length i)) [(0,mlR (ps,no,ap,ti) (tu,fi,da,xs) (.slice adp ps.length capp) (.slice ade xs.length cape) (.slice ad0 l.length cap0))] 1) a w'
 refine lpM (zc Tryz.f27) St l.length ?_ ?_
 ·obtain⟨u,Iu⟩:=I.scr (zc Tryz.f27) (zg 33 mtK) (mtV (mlV (ps,no,ap,ti) (tu,fi,da,xs) (.slice adp ps.length capp) (.slice ade xs.length cape) (.slice ad0 l.length cap0)) (.slice ad0 l.length cap0) (.slice none 0 0) l.length 0) [(0,mlR (ps,no,ap,ti) (tu,fi,da,xs) (.slice adp ps.length capp) (.slice ade xs.length cape) (.slice ad0 l.length cap0))] 1;exact⟨0,β,u,none,0,[],noK,by omega,Nat.zero_le _,rfl,Iu⟩
 rintro k a3 w3 ⟨i,β3,u,ad,cap,X,K,rfl,hi,hXi,I⟩;refine zv (tm:=zl (zg 33 mtK) u 0 (mtV (mlV (ps,no,ap,ti) (tu,fi,da,xs) (.slice adp ps.length capp) (.slice ade xs.length cape) (.slice ad0 l.length cap0)) (.slice ad0 l.length cap0) (.slice ad i cap) l.length i)) (rows:=[(0,mlR (ps,no,ap,ti) (tu,fi,da,xs) (.slice adp ps.length capp) (.slice ade xs.length cape) (.slice ad0 l.length cap0))]) (nx:=1) ?_;rcases Nat.lt_or_ge i l.length with hil|hil
 ·obtain⟨x,h1⟩:∃ t,l[i]? = some t:=⟨_,List.getElem?_eq_getElem hil⟩
  obtain⟨ga,offa,cs,rfl,hlt,hca,rfl,hx1,hx2⟩:=hm i _ h1;obtain⟨L,hL⟩:∃ L,((l.take i).map (seT 7))=L:=⟨_,rfl⟩
  rw[hL]at I;have hld:∀ w',QJ (CT 7) w 59 7 (.slice ad i cap) X L K w'→(loadVar 63 ⟨ga,offa+i*9,none⟩).run prog w'=.ok (slV x) w':=fun w' hb=>loadSe (hca.keep (hb.below.block ga hlt))
  have hsw:∀ w',Calls prog 57 #[slV x] w' fun e w''=>e=.returned (str (wrS x))∧Below w'.heap.size w' w'':=fun w'=>swrite_any x w'
  obtain⟨S,hS⟩:∃ S,wrS x=S:=⟨_,rfl⟩
  rw[hS]at hsw;obtain⟨r,q,o⟩:=x;refine goT (T:=QJ (CT 7) w 59 7 (.slice ad i cap) X L K) [klT i l.length,iA 29 underlying29 (sz:=9) (by kernel_rfl) (g:=ga) (off:=offa) (n:=l.length) (cap:=cap0) hil,ldA 63 hld,kC func57 hsw,kC func56 (mtext_any (bA S))] (QJ.rs (CT.loc 7) _ _ _ _ _ _ _) (fun _ h=>h) I fun β4 a4 w4 I hb4=>?_;have I5:=I.also (J':=MK (CT 7) noK (yj 7 (bA S)) (tx (1,0,bA S,.slice none 0 0))) (F':=noK) ⟨fun k h=>h.elim,_,rfl,LAf.nil _ _ 7⟩ (fun p hp h=>h.elim)
  refine kh (CT.loc 7) underlying48 hI41 rfl (by decide) (by decide) (ev:=tTm (bA S)) (zaa _ _ _ _ _ _ _ w4) rfl (one7 _ _ _ _ _ _) I5 hXi (by omega) (fun k h=>h.elim) fun ad8 cap8 a8 w8 I8=>?_;refine goQ [kaZ i 1 (i+1:Nat)] (QJ.rs (CT.loc 7) _ _ _ _ _ _ _) I8 fun β9 a9 w9 I hb9=>?_
  obtain⟨u',Iu⟩:=I.scr (zc Tryz.f27) (zg 33 mtK) (mtV (mlV (ps,no,ap,ti) (tu,fi,da,xs) (.slice adp ps.length capp) (.slice ade xs.length cape) (.slice (some ⟨ga,offa,none⟩) l.length cap0)) (.slice (some ⟨ga,offa,none⟩) l.length cap0) (.slice ad8 (i+1) cap8) l.length (i+1)) [(0,mlR (ps,no,ap,ti) (tu,fi,da,xs) (.slice adp ps.length capp) (.slice ade xs.length cape) (.slice (some ⟨ga,offa,none⟩) l.length cap0))] 1;have htk:(l.take (i+1)).map (seT 7)=L++[yj 7 (bA S)]:=by rw[List.take_add_one,h1,List.map_append,hL,← hS];rfl
  refine xc ⟨l.length-(i+1),by omega,i+1,β9,u',ad8,cap8,X++[tx (1,0,bA S,.slice none 0 0)],(fun k=>K k∨noK k),rfl,hil,by rw[List.length_append,hXi];rfl,?_⟩;rw[htk];exact Iu
 ·obtain rfl:i=l.length:=by omega
  refine goQ [bO .lss 3 (zf (x:=l.length) (y:=l.length) (b:=false) (by simp))] (QJ.rs (CT.loc 7) _ _ _ _ _ _ _) I fun β4 a4 w4 I hb4=>?_;refine xg 0 ?_;refine goQ [] (QJ.rs (CT.loc 7) _ _ _ _ _ _ _) (I.exit _) fun β5 a5 w5 I hb5=>?_;rw[List.take_length]at I;obtain⟨L,hL⟩:∃ L:TL 8,(l.map (seT 7))=L:=⟨_,rfl⟩
  rw[hL]at I ⊢;refine dwT (T:=Below w.heap.size w) 11 [cA func58 hWF,kC func56 (mtext_any (bA SF)),cA func59 hWV,kC func56 (mtext_any (bA SV)),dO 59 [0,3] (bd_lst2 ad l.length cap)] (QJ.rs (CT.loc 7) _ _ _ _ _ _ _) (fun _ h=>h.below) zd.post I fun a6 w6 I=>?_;refine bslQ (ss:=[(0,Sum.inl (tTm (bA SF))),(1,Sum.inl (tTm (bA SV))),(2,Sum.inl (lTm (.slice ad l.length cap)))]) I (bs_t3 (1,0,bA SF,.slice none 0 0) (1,0,bA SV,.slice none 0 0) (2,0,eB,.slice ad l.length cap) w6) ?_
  have I3:=I.lay (QJ.rs (CT.loc 7) _ _ _ _ _ _ _) (.cells ([tx (1,0,bA SF,.slice none 0 0),tx (1,0,bA SV,.slice none 0 0),tx (2,0,eB,.slice ad l.length cap)].flatten).toArray 59) (.slice (some ⟨w6.heap.size,0,none⟩) 3 3);obtain⟨b,hb2⟩:∃ b,w6.heap.size=b:=⟨_,rfl⟩
  have hbw:=I.hJ.below.size;rw[hb2]at I3 ⊢;refine goQ [] (((QJ.rs (CT.loc 7) _ _ _ _ _ _ _)).lay _ _) I3 fun β7 a7 w7 I hb7=>?_;have hdn:=(I.hJ.1.done (CT.loc 7)).terms;have hkb:=I.hJ.1.kb2;have hbl:b<w7.heap.size:=(Array.getElem?_eq_some_iff.1 I.hJ.2).1;refine zh (v:=.slice (some ⟨b,0,none⟩) 3 3) I ⟨I.hJ.1.below,some ⟨b,0,none⟩,3,3,(fun k=>(K k∨(Value.slice ad l.length cap).ownBlock=some k)∨k=b),rfl,fun k hk=>?_,?_⟩
  ·rcases hk with hk|hk
   ·exact hkb k hk
   ·subst hk;exact⟨by omega,hbl⟩
  ·refine za0 (K:=fun k=>(K k∨(Value.slice ad l.length cap).ownBlock=some k)∨k=b) (xs:=[(1,0,bA SF,.slice none 0 0),(1,0,bA SV,.slice none 0 0),(2,0,eB,.slice ad l.length cap)]) (l:=[yj 8 (bA SF),yj 8 (bA SV),zt 8 L]) I.hJ.2 (.inr rfl) rfl (fun i x t hx ht=>?_) 3
   match i,hx,ht with
   | 0,hx,ht=>cases hx;cases ht;exact⟨rfl,rfl,rfl,LAf.nil _ _ _⟩
   | 1,hx,ht=>cases hx;cases ht;exact⟨rfl,rfl,rfl,LAf.nil _ _ _⟩
   | 2,hx,ht=>cases hx;cases ht;exact⟨rfl,rfl,rfl,hdn.mono fun k hk=>.inl hk⟩
def wrM (f:Fi) (v:Va) (l:List Se):List UInt8:=if fitM f v l=true then enc 9 (mlT f v l)else []
theorem fitM_len{f:Fi}{v:Va}{l:List Se}(h:fitM f v l=true):kw f=true∧vn v=true∧1≤l.length∧l.length≤4:=by
 unfold fitM at h;simp only[Bool.and_eq_true,decide_eq_true_eq]at h;exact⟨h.1.1.1,h.1.1.2,h.1.2,h.2⟩
theorem mwrite_any{w:World}{pv ev sv:Value}{f:Fi}{v:Va}{l:List Se}(h:MlI w pv ev sv f v l):Calls prog 12 #[mlV f v pv ev sv] w fun e w'=>e=.returned (str (wrM f v l))∧Below w.heap.size w w':=by
 obtain⟨adp,capp,rfl⟩:=h.pf.1.slice;obtain⟨ade,cape,rfl⟩:=h.xf.slice;obtain⟨ads,caps,rfl⟩:=h.sf.slice;refine inZ func12 fun a I=>?_;have hF:∀ w',Below w.heap.size w w'→Calls prog 10 #[mlV f v (.slice adp f.1.length capp) (.slice ade v.2.2.2.length cape) (.slice ads l.length caps)] w' fun e w''=>e=.returned (.bool (fitM f v l))∧Below w'.heap.size w' w'':=fun w' hb=>mfit_any (h.below hb)
 unfold wrM;cases hf:fitM f v l with
 | false=>
  rw[hf]at hF;refine goT (T:=Below w.heap.size w) [cA func10 hF,uO .not (p:=.bool false) (v:=.bool true) (by intros;rfl)] (zj w) (fun _ h=>h) I fun β a w1 I hb=>?_;exact xj (v:=.string eB) I
 | true=>
  rw[hf]at hF;have hlen:(enc 9 (mlT f v l)).length≤25000:=mlT_w (fitM_len hf).2.2.2;refine goT (T:=Below w.heap.size w) [cA func10 hF,uO .not (p:=.bool true) (v:=.bool false) (by intros;rfl)] (zj w) (fun _ h=>h) I fun β a w1 I hb=>?_;refine yp (ss:=[Sum.inl (mlV f v (.slice adp f.1.length capp) (.slice ade v.2.2.2.length cape) (.slice ads l.length caps))]) func27 I ?_;have hsz1:=I.hJ.size;refine(mterms_any (h.below I.hJ)).mono fun e w2 he=>?_;obtain⟨hb2,ad2,m2,cap2,K,rfl,hK,hLA⟩:=he;generalize mlT f v l=ts at hLA hlen
  have I2:SI (fun w'=>Below w.heap.size w w'∧LK K w1.heap.size 9 (.slice ad2 m2 cap2) ts w') (fun k=>k<w.heap.size∨K k) [] β _ _ w2:=I.moved (zi.of_below hb2) ⟨I.hJ.trans (hb2.mono hsz1),hK,hLA⟩ (fun k hk h=>by
   rcases h with h|h
   ·exact h
   ·have:=(hK k h).1;omega) (.slice ad2 m2 cap2)
  have hE:∀ w',(Below w.heap.size w w'∧LK K w1.heap.size 9 (.slice ad2 m2 cap2) ts w')→Calls prog 26 #[.slice ad2 m2 cap2] w' fun e w''=>e=.returned (str (enc 9 ts))∧Below w'.heap.size w' w'':=fun w' hw=>encode_any 9 ts hw.2.la.la (by omega)
  refine goT (T:=fun w'=>Below w.heap.size w w'∧LK K w1.heap.size 9 (.slice ad2 m2 cap2) ts w') [cA func26 hE] ((zj w).both (LK.rs _ _ _ _ _)) (fun _ h=>h) I2 fun β3 a3 w3 I hb3=>?_;exact zh (v:=str (enc 9 ts)) I ⟨rfl,I.hJ.1⟩
end Go.Proofs.YtdeompgdhaomgaaGreatDoor
