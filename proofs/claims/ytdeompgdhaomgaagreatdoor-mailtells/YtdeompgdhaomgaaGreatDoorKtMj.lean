/- Laid one behind the other: Mj, Mk. -/
import Derived.Test.YtdeompgdhaomgaaGreatDoorKtMi
import Derived.Test.YtdeompgdhaomgaaGreatDoorKtTz
namespace Go.Proofs.YtdeompgdhaomgaaGreatDoor
open Go.RowKit Go.Sort Go.Proofs.Tryz
set_option linter.unusedVariables false
set_option maxRecDepth 100000
set_option maxHeartbeats 4000000
theorem zMl_I(w:World):MlI w (.slice none 0 0) (.slice none 0 0) (.slice none 0 0) zFi zVa []:=⟨⟨SlI.nil _ _,none,0,rfl,Nat.le_refl _⟩,SlI.nil _ _,SlI.nil _ _,by decide,by decide,⟨by decide,fun x h=>(by cases h)⟩,by decide⟩
theorem mread_nil(w:World):Calls prog 8 #[str []] w fun e w'=>e=.returned (.tuple #[zMl,Z 2])∧Below w.heap.size w w':=(mread_any [] (by decide) w).mono fun e w' he=>by
 obtain⟨hb,⟨f,v,l,adp,capp,ade,cape,ads,caps,K,h,_⟩|⟨_,he⟩⟩:=he
 ·rw[rdM_nil]at h;cases h
 ·exact⟨he,hb⟩
theorem zay:RT 7 #[] (.bool true):=by
 intro w;have hW:∀ w',Calls prog 12 #[zMl] w' fun e w''=>e=.returned (str [])∧Below w'.heap.size w' w'':=fun w'=>mwrite_any (zMl_I w')
 refine inZ func7 fun a I=>?_;refine goZ [kC func8 mread_nil,dO 33 [] bd_mz,kC func12 hW,bO .eql 9 (yt (a:=[]) (b:=[]) (q:=true) rfl),bO .eql 36 (eqE_run 2 2 (q:=true) rfl)] I fun β a w1 I hb=>?_;exact xj (v:=.bool true) I
structure MlA (w:World) (pv ev sv:Value) (f:Fi) (v:Va) (l:List Se):Prop where
 pf:PaI w pv f.1
 xf:ExI w ev v.2.2.2
 sf:SeI w sv l
 nf:f.2.1<M
 nv:v.1<M
theorem MlA.below{w w':World}{pv ev sv:Value}{f:Fi}{v:Va}{l:List Se}(h:MlA w pv ev sv f v l)(hb:Below w.heap.size w w'):MlA w' pv ev sv f v l:=⟨h.pf.below hb,h.xf.below CE.loc hb,h.sf.below CZ.loc hb,h.nf,h.nv⟩
def fewM (f:Fi) (v:Va) (l:List Se):Prop:=f.1.length≤10∧l.length≤6∧okX v.2.2.2
theorem MlA.mli{w:World}{pv ev sv:Value}{f:Fi}{v:Va}{l:List Se}(h:MlA w pv ev sv f v l)(k:fewM f v l):MlI w pv ev sv f v l:=⟨h.pf,h.xf,h.sf,h.nf,h.nv,k.2.2,by have:=k.2.1;omega⟩
theorem gtrN{n k:Nat}{b:Bool}(h:decide (k<n)=b):decide ((k:Int)<(n:Int))=b:=by
 rw[← h];by_cases q:k<n
 ·rw[decide_eq_true q,decide_eq_true (by omega)]
 ·rw[decide_eq_false q,decide_eq_false (by omega)]
abbrev mjK:List Nat:=[0,1,2,43,44,45]
abbrev mjV (mv ev:Value) (n i:Nat):Vs:=frm 54 [(0,Sum.inl mv),(1,Sum.inr (0,0)),(2,Sum.inl (.bool false)),(43,Sum.inl ev),(44,Sum.inl (Z n)),(45,Sum.inl (Z i))]
theorem mfew_any{w:World}{pv ev sv:Value}{f:Fi}{v:Va}{l:List Se}(h:MlA w pv ev sv f v l):Calls prog 6 #[mlV f v pv ev sv] w fun e w'=>Below w.heap.size w w'∧∃ u,e=.returned u∧(u=.bool false∨u=.bool true∧fewM f v l):=by
 obtain⟨adp,capp,rfl⟩:=h.pf.1.slice;obtain⟨ade,cape,rfl,hm⟩:=id h.xf;obtain⟨ads,caps,rfl⟩:=h.sf.slice;clear h;obtain⟨ps,no,ap,ti⟩:=f;obtain⟨tu,fi,da,xs⟩:=v;simp only[]at hm ⊢;refine inZ func6 fun a I=>?_;by_cases q1:10<ps.length
 ·refine goZ [lS underlying22 (ad:=adp) (n:=ps.length) (cap:=capp) rfl,bO .gtr 3 (zu (x:=ps.length) (y:=(10:Nat)) (b:=true) (gtrN (decide_eq_true q1)))] I fun β a w1 I hb=>?_;exact zh (v:=.bool false) I ⟨I.hJ,_,rfl,.inl rfl⟩
 by_cases q2:600<ap.size
 ·refine goZ [lS underlying22 (ad:=adp) (n:=ps.length) (cap:=capp) rfl,bO .gtr 3 (zu (x:=ps.length) (y:=(10:Nat)) (b:=false) (gtrN (decide_eq_false q1))),lO underlying9 (b:=ap) (n:=ap.size) rfl,bO .gtr 3 (zu (x:=ap.size) (y:=(600:Nat)) (b:=true) (gtrN (decide_eq_true q2)))] I fun β a w1 I hb=>?_;exact zh (v:=.bool false) I ⟨I.hJ,_,rfl,.inl rfl⟩
 by_cases q3:6<l.length
 ·refine goZ [lS underlying22 (ad:=adp) (n:=ps.length) (cap:=capp) rfl,bO .gtr 3 (zu (x:=ps.length) (y:=(10:Nat)) (b:=false) (gtrN (decide_eq_false q1))),lO underlying9 (b:=ap) (n:=ap.size) rfl,bO .gtr 3 (zu (x:=ap.size) (y:=(600:Nat)) (b:=false) (gtrN (decide_eq_false q2))),lS underlying29 (ad:=ads) (n:=l.length) (cap:=caps) rfl,bO .gtr 3 (zu (x:=l.length) (y:=(6:Nat)) (b:=true) (gtrN (decide_eq_true q3)))] I fun β a w1 I hb=>?_;exact zh (v:=.bool false) I ⟨I.hJ,_,rfl,.inl rfl⟩
 by_cases q4:1000<da.size
 ·refine goZ [lS underlying22 (ad:=adp) (n:=ps.length) (cap:=capp) rfl,bO .gtr 3 (zu (x:=ps.length) (y:=(10:Nat)) (b:=false) (gtrN (decide_eq_false q1))),lO underlying9 (b:=ap) (n:=ap.size) rfl,bO .gtr 3 (zu (x:=ap.size) (y:=(600:Nat)) (b:=false) (gtrN (decide_eq_false q2))),lS underlying29 (ad:=ads) (n:=l.length) (cap:=caps) rfl,bO .gtr 3 (zu (x:=l.length) (y:=(6:Nat)) (b:=false) (gtrN (decide_eq_false q3))),lO underlying9 (b:=da) (n:=da.size) rfl,bO .gtr 3 (zu (x:=da.size) (y:=(1000:Nat)) (b:=true) (gtrN (decide_eq_true q4)))] I fun β a w1 I hb=>?_
  exact zh (v:=.bool false) I ⟨I.hJ,_,rfl,.inl rfl⟩
 by_cases q5:10<xs.length
 ·refine goZ [lS underlying22 (ad:=adp) (n:=ps.length) (cap:=capp) rfl,bO .gtr 3 (zu (x:=ps.length) (y:=(10:Nat)) (b:=false) (gtrN (decide_eq_false q1))),lO underlying9 (b:=ap) (n:=ap.size) rfl,bO .gtr 3 (zu (x:=ap.size) (y:=(600:Nat)) (b:=false) (gtrN (decide_eq_false q2))),lS underlying29 (ad:=ads) (n:=l.length) (cap:=caps) rfl,bO .gtr 3 (zu (x:=l.length) (y:=(6:Nat)) (b:=false) (gtrN (decide_eq_false q3))),lO underlying9 (b:=da) (n:=da.size) rfl,bO .gtr 3 (zu (x:=da.size) (y:=(1000:Nat)) (b:=false) (gtrN (decide_eq_false q4))),lS underlying26 (ad:=ade) (n:=xs.length) (cap:=cape) rfl,bO .gtr 3 (zu (x:=xs.length) (y:=(10:Nat)) (b:=true) (gtrN (decide_eq_true q5)))] I fun β a w1 I hb=>?_
  exact zh (v:=.bool false) I ⟨I.hJ,_,rfl,.inl rfl⟩
 refine goZ [lS underlying22 (ad:=adp) (n:=ps.length) (cap:=capp) rfl,bO .gtr 3 (zu (x:=ps.length) (y:=(10:Nat)) (b:=false) (gtrN (decide_eq_false q1))),lO underlying9 (b:=ap) (n:=ap.size) rfl,bO .gtr 3 (zu (x:=ap.size) (y:=(600:Nat)) (b:=false) (gtrN (decide_eq_false q2))),lS underlying29 (ad:=ads) (n:=l.length) (cap:=caps) rfl,bO .gtr 3 (zu (x:=l.length) (y:=(6:Nat)) (b:=false) (gtrN (decide_eq_false q3))),lO underlying9 (b:=da) (n:=da.size) rfl,bO .gtr 3 (zu (x:=da.size) (y:=(1000:Nat)) (b:=false) (gtrN (decide_eq_false q4))),lS underlying26 (ad:=ade) (n:=xs.length) (cap:=cape) rfl,bO .gtr 3 (zu (x:=xs.length) (y:=(10:Nat)) (b:=false) (gtrN (decide_eq_false q5))),lS underlying26 (ad:=ade) (n:=xs.length) (cap:=cape) rfl] I fun β a w1 I hb=>?_
 let St:Nat→Act→World→Prop:=fun k a w'=>∃(i:Nat) (β:Nat→Nat) (u:Nat→Value),k=xs.length-i∧i≤xs.length∧(∀(j:Nat) x,j<i→xs[j]? = some x→x.2.length≤20) ∧
  SI (Below w.heap.size w) (· < w.heap.size) [] β (cfC (zc Tryz.f6) (zl (zg 54 mjK) u 0 (mjV (mlV (ps,no,ap,ti) (tu,fi,da,xs) (.slice adp ps.length capp) (.slice ade xs.length cape) (.slice ads l.length caps)) (.slice ade xs.length cape) xs.length i)) [(0,mlR (ps,no,ap,ti) (tu,fi,da,xs) (.slice adp ps.length capp) (.slice ade xs.length cape) (.slice ads l.length caps))] 1) a w'
 refine lpM (zc Tryz.f6) St xs.length ?_ ?_
 ·obtain⟨u,Iu⟩:=I.scr (zc Tryz.f6) (zg 54 mjK) (mjV (mlV (ps,no,ap,ti) (tu,fi,da,xs) (.slice adp ps.length capp) (.slice ade xs.length cape) (.slice ads l.length caps)) (.slice ade xs.length cape) xs.length 0) [(0,mlR (ps,no,ap,ti) (tu,fi,da,xs) (.slice adp ps.length capp) (.slice ade xs.length cape) (.slice ads l.length caps))] 1;exact⟨0,β,u,by omega,Nat.zero_le _,fun j x h=>absurd h (Nat.not_lt_zero j),Iu⟩
 rintro k a3 w3 ⟨i,β3,u,rfl,hi,hok,I⟩;refine zv (tm:=zl (zg 54 mjK) u 0 (mjV (mlV (ps,no,ap,ti) (tu,fi,da,xs) (.slice adp ps.length capp) (.slice ade xs.length cape) (.slice ads l.length caps)) (.slice ade xs.length cape) xs.length i)) (rows:=[(0,mlR (ps,no,ap,ti) (tu,fi,da,xs) (.slice adp ps.length capp) (.slice ade xs.length cape) (.slice ads l.length caps))]) (nx:=1) ?_;rcases Nat.lt_or_ge i xs.length with hil|hil
 ·obtain⟨⟨sx,al⟩,h1⟩:∃ t,xs[i]? = some t:=⟨_,List.getElem?_eq_getElem hil⟩
  obtain⟨ga,offa,cs,rfl,hlt,hca,av,rfl,hX⟩:=hm i _ h1;obtain⟨adx,capx,rfl⟩:=hX.slice;simp only[]at hca;have hld:∀ w',Below w.heap.size w w'→(loadVar 47 ⟨ga,offa+i*2,none⟩).run prog w'=.ok (.agg #[.string sx,.slice adx al.length capx]) w':=fun w' hb=>loadEx (hca.keep (hb.block ga hlt))
  by_cases q6:20<al.length
  ·refine goT (T:=Below w.heap.size w) [klT i xs.length,iA 26 underlying26 (sz:=2) (by kernel_rfl) (g:=ga) (off:=offa) (n:=xs.length) (cap:=cape) hil,ldA 47 hld,lS underlying45 (ad:=adx) (n:=al.length) (cap:=capx) rfl,bO .gtr 3 (zu (x:=al.length) (y:=(20:Nat)) (b:=true) (gtrN (decide_eq_true q6)))] (zj w) (fun _ h=>h) I fun β4 a4 w4 I hb4=>?_;exact qc (qb (v:=.bool false) I ⟨I.hJ,_,rfl,.inl rfl⟩)
  ·refine goT (T:=Below w.heap.size w) [klT i xs.length,iA 26 underlying26 (sz:=2) (by kernel_rfl) (g:=ga) (off:=offa) (n:=xs.length) (cap:=cape) hil,ldA 47 hld,lS underlying45 (ad:=adx) (n:=al.length) (cap:=capx) rfl,bO .gtr 3 (zu (x:=al.length) (y:=(20:Nat)) (b:=false) (gtrN (decide_eq_false q6))),kaZ i 1 (i+1:Nat)] (zj w) (fun _ h=>h) I fun β4 a4 w4 I hb4=>?_
   obtain⟨u',Iu⟩:=I.scr (zc Tryz.f6) (zg 54 mjK) (mjV (mlV (ps,no,ap,ti) (tu,fi,da,xs) (.slice adp ps.length capp) (.slice (some ⟨ga,offa,none⟩) xs.length cape) (.slice ads l.length caps)) (.slice (some ⟨ga,offa,none⟩) xs.length cape) xs.length (i+1)) [(0,mlR (ps,no,ap,ti) (tu,fi,da,xs) (.slice adp ps.length capp) (.slice (some ⟨ga,offa,none⟩) xs.length cape) (.slice ads l.length caps))] 1;refine xc ⟨xs.length-(i+1),by omega,i+1,β4,u',rfl,hil,fun j y hj hy=>?_,Iu⟩;rcases Nat.lt_or_ge j i with hji | hji
   ·exact hok j y hji hy
   ·obtain rfl:j=i:=by omega
    rw[h1]at hy;cases hy;exact Nat.le_of_not_lt q6
 ·obtain rfl:i=xs.length:=by omega
  refine goZ [bO .lss 3 (zf (x:=xs.length) (y:=xs.length) (b:=false) (by simp))] I fun β4 a4 w4 I hb4=>?_;refine xg 0 ?_;refine goZ [] (I.exit _) fun β5 a5 w5 I hb5=>?_;refine zh (v:=.bool true) I ⟨I.hJ,_,rfl,.inr ⟨rfl,Nat.le_of_not_lt q1,Nat.le_of_not_lt q3,by have:=Nat.le_of_not_lt q5;show xs.length<1000000000;omega,fun x hx=>?_⟩⟩;obtain⟨j,hj⟩:=List.mem_iff_getElem?.1 hx;have:=hok j x (List.getElem?_eq_some_iff.1 hj).1 hj;omega
section
open Go.RowKit Go.Sort Go.ChangeShapes Go.WideShapes Go.ChangeAt
section
variable {H:Type} {enc:TypeId×Value→H} {w:World} {base:Nat} {spare:Nat→Bool} {held:Bool}
theorem k25:prog.cellsOf 25=4:=by kernel_rfl
theorem k28:prog.cellsOf 28=4:=by kernel_rfl
theorem k31:prog.cellsOf 31=5:=by kernel_rfl
theorem k63:prog.cellsOf 63=9:=by kernel_rfl
theorem kc22:prog.cellsOf 22=1:=by kernel_rfl
theorem kc23:prog.cellsOf 23=1:=by kernel_rfl
theorem kc26:prog.cellsOf 26=1:=by kernel_rfl
theorem kc29:prog.cellsOf 29=1:=by kernel_rfl
theorem kc4:prog.cellsOf 4=1:=by kernel_rfl
theorem fx_raw{fuel:Nat}{cs:List Value}{x:DataW H×List MemPlace}(h:DataW.trod enc prog w base spare held fuel 25 cs=some x):∃(f:Fi) (pv:Value),cs=[pv,B f.2.1,.string f.2.2.1,Z f.2.2.2]∧PaI w pv f.1∧f.2.1<M:=by
 obtain⟨xs,n,_,hx,hl,hlen,hf⟩:=DataW.trod_struct underlying25 h;rw[k25]at hl
 match cs,hl with
 | [a0,a1,a2,a3],_=>
  match xs,hlen with
  | [y0,y1,y2,y3],_=>
   have h0:DataW.trod enc prog w base spare held n 22 (([a0,a1,a2,a3].drop 0).take (prog.cellsOf 22))=some y0:=hf 0 _ rfl;have h1:DataW.trod enc prog w base spare held n 23 (([a0,a1,a2,a3].drop 1).take (prog.cellsOf 23))=some y1:=hf 1 _ rfl;have h2:DataW.trod enc prog w base spare held n 9 (([a0,a1,a2,a3].drop 2).take (prog.cellsOf 9))=some y2:=hf 2 _ rfl;have h3:DataW.trod enc prog w base spare held n 3 (([a0,a1,a2,a3].drop 3).take (prog.cellsOf 3))=some y3:=hf 3 _ rfl;rw[kc22]at h0;rw[kc23]at h1;rw[c9]at h2;rw[c3]at h3
   obtain⟨l,hl,hc⟩:=sl_of CS underlying22 c9 (by omega) text_raw h0;obtain⟨u1,e1,rfl,w1⟩:=DataW.trod_int underlying23 h1;obtain⟨k1,rfl,g1⟩:=wf_u64 w1;obtain⟨s2,e2,_,_⟩:=DataW.trod_string underlying9 h2;obtain⟨t3,e3,_,_⟩:=DataW.trod_int underlying3 h3;simp only[List.drop_succ_cons,List.drop_zero,List.take_succ_cons,List.take_zero,List.cons.injEq,and_true]at e1 e2 e3;subst e1 e2 e3;exact⟨(l,k1,s2,t3),a0,rfl,⟨hl,hc⟩,g1⟩
theorem vr_raw{fuel:Nat}{cs:List Value}{x:DataW H×List MemPlace}(h:DataW.trod enc prog w base spare held fuel 28 cs=some x):∃(v:Va) (ev:Value),cs=[B v.1,.bool v.2.1,.string v.2.2.1,ev]∧ExI w ev v.2.2.2∧v.1<M:=by
 obtain⟨xs,n,_,hx,hl,hlen,hf⟩:=DataW.trod_struct underlying28 h;rw[k28]at hl
 match cs,hl with
 | [a0,a1,a2,a3],_=>
  match xs,hlen with
  | [y0,y1,y2,y3],_=>
   have h0:DataW.trod enc prog w base spare held n 23 (([a0,a1,a2,a3].drop 0).take (prog.cellsOf 23))=some y0:=hf 0 _ rfl;have h1:DataW.trod enc prog w base spare held n 4 (([a0,a1,a2,a3].drop 1).take (prog.cellsOf 4))=some y1:=hf 1 _ rfl;have h2:DataW.trod enc prog w base spare held n 9 (([a0,a1,a2,a3].drop 2).take (prog.cellsOf 9))=some y2:=hf 2 _ rfl;have h3:DataW.trod enc prog w base spare held n 26 (([a0,a1,a2,a3].drop 3).take (prog.cellsOf 26))=some y3:=hf 3 _ rfl;rw[kc23]at h0;rw[kc4]at h1;rw[c9]at h2;rw[kc26]at h3
   obtain⟨l,hl,hc⟩:=sl_of CE underlying26 k38 (by omega) ex_raw h3;obtain⟨u1,e1,rfl,w1⟩:=DataW.trod_int underlying23 h0;obtain⟨k1,rfl,g1⟩:=wf_u64 w1;obtain⟨b1,e2,_⟩:=DataW.trod_bool underlying4 h1;obtain⟨s2,e3,_,_⟩:=DataW.trod_string underlying9 h2;simp only[List.drop_succ_cons,List.drop_zero,List.take_succ_cons,List.take_zero,List.cons.injEq,and_true]at e1 e2 e3;subst e1 e2 e3;exact⟨(k1,b1,s2,l),a3,rfl,hl,g1⟩
theorem se_raw{fuel:Nat}{cs:List Value}{x:DataW H×List MemPlace}(h:DataW.trod enc prog w base spare held fuel 63 cs=some x):∃ y:Se,CZ (· < w.heap.size) w y cs:=by
 obtain⟨xs,n,_,hx,hl,hlen,hf⟩:=DataW.trod_struct underlying63 h;rw[k63]at hl
 match cs,hl with
 | [a0,a1,a2,a3,a4,a5,a6,a7,a8],_=>
  match xs,hlen with
  | [y0,y1,y2],_=>
   have h0:DataW.trod enc prog w base spare held n 57 (([a0,a1,a2,a3,a4,a5,a6,a7,a8].drop 0).take (prog.cellsOf 57))=some y0:=hf 0 _ rfl;have h1:DataW.trod enc prog w base spare held n 57 (([a0,a1,a2,a3,a4,a5,a6,a7,a8].drop 4).take (prog.cellsOf 57))=some y1:=hf 1 _ rfl;have h2:DataW.trod enc prog w base spare held n 4 (([a0,a1,a2,a3,a4,a5,a6,a7,a8].drop 8).take (prog.cellsOf 4))=some y2:=hf 2 _ rfl;rw[k33]at h0 h1;rw[kc4]at h2;obtain⟨r,hr,q1,q2,q3,q4⟩:=num_raw h0;obtain⟨s,hs,p1,p2,p3,p4⟩:=num_raw h1;obtain⟨o,e2,_⟩:=DataW.trod_bool underlying4 h2
   simp only[List.drop_succ_cons,List.drop_zero,List.take_succ_cons,List.take_zero,List.cons.injEq,and_true]at e2;subst q1 q2 q3 q4 p1 p2 p3 p4 e2;exact⟨(r,s,o),rfl,hr,hs⟩
theorem sg_raw{fuel:Nat}{cs:List Value}{x:DataW H×List MemPlace}(h:DataW.trod enc prog w base spare held fuel 31 cs=some x):∃(v:Va) (l:List Se) (ev sv:Value),cs=[B v.1,.bool v.2.1,.string v.2.2.1,ev,sv]∧ExI w ev v.2.2.2∧SeI w sv l∧v.1<M:=by
 obtain⟨xs,n,_,hx,hl,hlen,hf⟩:=DataW.trod_struct underlying31 h;rw[k31]at hl
 match cs,hl with
 | [a0,a1,a2,a3,a4],_=>
  match xs,hlen with
  | [y0,y1],_=>
   have h0:DataW.trod enc prog w base spare held n 28 (([a0,a1,a2,a3,a4].drop 0).take (prog.cellsOf 28))=some y0:=hf 0 _ rfl;have h1:DataW.trod enc prog w base spare held n 29 (([a0,a1,a2,a3,a4].drop 4).take (prog.cellsOf 29))=some y1:=hf 1 _ rfl;rw[k28]at h0;rw[kc29]at h1;obtain⟨v,ev,e0,hv,nv⟩:=vr_raw h0;obtain⟨l,hl,_⟩:=sl_of CZ underlying29 k63 (by omega) se_raw h1;simp only[List.drop_zero,List.take_succ_cons,List.take_zero,List.cons.injEq,and_true]at e0;obtain⟨rfl,rfl,rfl,rfl⟩:=e0;exact⟨v,l,a3,a4,rfl,hv,hl,nv⟩
theorem open_mail{r:Reach}{b0:Nat}{v:Value}{d:DataW H}{p:List MemPlace}(hv:Value.okWide prog w r b0 33 v)(h:DataW.Trod enc prog w base spare held 33 v d p):∃(f:Fi) (u:Va) (l:List Se) (pv ev sv:Value),v=mlV f u pv ev sv∧MlA w pv ev sv f u l:=by
 obtain⟨cs,rfl,hsz⟩:=okWide_struct underlying33 hv;obtain⟨fuel,hf0⟩:=h;obtain⟨xs,n,_,hx,hl,hlen,hf⟩:=DataW.trod_struct underlying33 hf0;have hsz9:cs.size=9:=hsz.trans (by kernel_rfl);obtain⟨cs⟩:=cs
 match cs,hsz9 with
 | [a0,a1,a2,a3,a4,a5,a6,a7,a8],_=>
  match xs,hlen with
  | [y0,y1],_=>
   have h0:DataW.trod enc prog w base spare held n 25 (([a0,a1,a2,a3,a4,a5,a6,a7,a8].drop 0).take (prog.cellsOf 25))=some y0:=hf 0 _ rfl;have h1:DataW.trod enc prog w base spare held n 31 (([a0,a1,a2,a3,a4,a5,a6,a7,a8].drop 4).take (prog.cellsOf 31))=some y1:=hf 1 _ rfl;rw[k25]at h0;rw[k31]at h1;obtain⟨f,pv,e0,hp,nf⟩:=fx_raw h0;obtain⟨u,l,ev,sv,e1,hev,hsv,nv⟩:=sg_raw h1;simp only[List.drop_succ_cons,List.drop_zero,List.take_succ_cons,List.take_zero,List.cons.injEq,and_true]at e0 e1;obtain⟨rfl,rfl,rfl,rfl⟩:=e0;obtain⟨rfl,rfl,rfl,rfl,rfl⟩:=e1
   exact⟨f,u,l,a0,a7,a8,rfl,hp,hev,hsv,nf,nv⟩
end
end
end Go.Proofs.YtdeompgdhaomgaaGreatDoor
