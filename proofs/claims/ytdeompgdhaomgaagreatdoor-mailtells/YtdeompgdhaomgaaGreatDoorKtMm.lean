/- Out of Mm. -/
import Derived.Test.YtdeompgdhaomgaaGreatDoorKtMj
import Derived.Test.YtdeompgdhaomgaaGreatDoorKtMc
import Derived.Test.YtdeompgdhaomgaaGreatDoorKtMf
namespace Go.Proofs.YtdeompgdhaomgaaGreatDoor
open Go.RowKit Go.Sort Go.Proofs.Tryz
set_option linter.unusedVariables false
set_option maxRecDepth 100000
set_option maxHeartbeats 4000000
theorem mtells_walk{w:World}{pv ev sv pu eu su:Value}{f g:Fi}{v u:Va}{l m:List Se}(h:MlA w pv ev sv f v l)(k:MlA w pu eu su g u m)(s:ByteArray):Calls prog 3 #[mlV f v pv ev sv,mlV g u pu eu su,.string s] w fun e w'=>e=.returned (.bool true)∧Below w.heap.size w w':=by
 obtain⟨adp,capp,hpv⟩:=h.pf.1.slice;obtain⟨ade,cape,hev⟩:=h.xf.slice;obtain⟨ads,caps,hsv⟩:=h.sf.slice;obtain⟨adq,capq,hpu⟩:=k.pf.1.slice;obtain⟨adf,capf,heu⟩:=k.xf.slice;obtain⟨adt,capt,hsu⟩:=k.sf.slice;subst hpv hev hsv hpu heu hsu;have hsl:s.data.toList.length=s.size:=Array.length_toList;have hE1:∀ w',Below w.heap.size w w'→Calls prog 6 #[mlV f v (.slice adp f.1.length capp) (.slice ade v.2.2.2.length cape) (.slice ads l.length caps)] w' _:=fun w' hb=>mfew_any (h.below hb)
 have hE2:∀ w',Below w.heap.size w w'→Calls prog 6 #[mlV g u (.slice adq g.1.length capq) (.slice adf u.2.2.2.length capf) (.slice adt m.length capt)] w' _:=fun w' hb=>mfew_any (k.below hb)
 have hP:fewM f v l→∀ w',Below w.heap.size w w'→Calls prog 10 #[mlV f v (.slice adp f.1.length capp) (.slice ade v.2.2.2.length cape) (.slice ads l.length caps)] w' fun e w''=>e=.returned (.bool (fitM f v l))∧Below w'.heap.size w' w'':=fun q w' hb=>mfit_any ((h.below hb).mli q)
 have hD:fewM f v l→∀ w',Below w.heap.size w w'→Calls prog 11 #[mlV f v (.slice adp f.1.length capp) (.slice ade v.2.2.2.length cape) (.slice ads l.length caps)] w' fun e w''=>e=.returned (.bool (fitM f v l))∧Below w'.heap.size w' w'':=fun q w' hb=>rmfit_any ((h.below hb).mli q)
 have hW:fewM f v l→∀ w',Below w.heap.size w w'→Calls prog 12 #[mlV f v (.slice adp f.1.length capp) (.slice ade v.2.2.2.length cape) (.slice ads l.length caps)] w' fun e w''=>e=.returned (str (wrM f v l))∧Below w'.heap.size w' w'':=fun q w' hb=>mwrite_any ((h.below hb).mli q)
 have hX:fewM f v l→∀ w',Below w.heap.size w w'→Calls prog 13 #[mlV f v (.slice adp f.1.length capp) (.slice ade v.2.2.2.length cape) (.slice ads l.length caps)] w' fun e w''=>e=.returned (str (wrM f v l))∧Below w'.heap.size w' w'':=fun q w' hb=>rmwrite_any ((h.below hb).mli q)
 have hS:fewM f v l→fewM g u m→∀ w',Below w.heap.size w w'→Calls prog 14 #[mlV f v (.slice adp f.1.length capp) (.slice ade v.2.2.2.length cape) (.slice ads l.length caps),mlV g u (.slice adq g.1.length capq) (.slice adf u.2.2.2.length capf) (.slice adt m.length capt)] w' fun e w''=>e=.returned (.bool (eqM f v l g u m))∧Below w'.heap.size w' w'':=fun q q2 w' hb=>msame_any ((h.below hb).mli q) ((k.below hb).mli q2) (by have:=q.1;omega)
 have hT:fewM f v l→fewM g u m→∀ w',Below w.heap.size w w'→Calls prog 15 #[mlV f v (.slice adp f.1.length capp) (.slice ade v.2.2.2.length cape) (.slice ads l.length caps),mlV g u (.slice adq g.1.length capq) (.slice adf u.2.2.2.length capf) (.slice adt m.length capt)] w' fun e w''=>e=.returned (.bool (eqM f v l g u m))∧Below w'.heap.size w' w'':=fun q q2 w' hb=>rmsame_any ((h.below hb).mli q) ((k.below hb).mli q2) (by have:=q.1;omega)
 have hO:fewM f v l→∀ w',Below w.heap.size w w'→Calls prog 14 #[mlV f v (.slice adp f.1.length capp) (.slice ade v.2.2.2.length cape) (.slice ads l.length caps),mlV f v (.slice adp f.1.length capp) (.slice ade v.2.2.2.length cape) (.slice ads l.length caps)] w' fun e w''=>e=.returned (.bool true)∧Below w'.heap.size w' w'':=fun q w' hb=>by
  have:=msame_any ((h.below hb).mli q) ((h.below hb).mli q) (by have:=q.1;omega)
  rwa [eqM_iff.2 ⟨rfl,rfl,rfl⟩]at this
 generalize fitM f v l=b0 at hP hD;generalize wrM f v l=S1 at hW hX;generalize eqM f v l g u m=q0 at hS hT;obtain⟨p1,n1,a1,t1⟩:=f;obtain⟨p2,n2,a2,t2⟩:=g;obtain⟨u1,c1,d1,x1⟩:=v;obtain⟨u2,c2,d2,x2⟩:=u;simp only[]at hE1 hE2 hP hD hW hX hS hT hO;clear h k;obtain⟨S,hSe⟩:∃ S,s.data.toList=S:=⟨_,rfl⟩
 rw[hSe]at hsl;have hs:(.string s:Value)=str S:=by rw[← hSe]
 rw[hs];have hsz:=zn S;refine inZ func3 fun a I=>?_;refine goZ [] I fun β a w1 I hb=>?_;refine bcall [Sum.inl (.agg #[.slice adp p1.length capp,B n1,.string a1,Z t1,B u1,.bool c1,.string d1,.slice ade x1.length cape,.slice ads l.length caps])] func6 (zj w) I _ (hE1 w1 I.hJ) fun v' w2 hv' I=>?_;rcases hv' with rfl | ⟨rfl,few1⟩
 ·refine goZ [uO .not (p:=.bool false) (v:=.bool true) (by intros;rfl),kC func7 zay] I fun β6 a6 w6 I hb6=>?_;exact xj (v:=.bool true) I
 refine goZ [uO .not (p:=.bool true) (v:=.bool false) (by intros;rfl)] I fun β a w1 I hb=>?_;refine bcall [Sum.inl (.agg #[.slice adq p2.length capq,B n2,.string a2,Z t2,B u2,.bool c2,.string d2,.slice adf x2.length capf,.slice adt m.length capt])] func6 (zj w) I _ (hE2 w1 I.hJ) fun v' w2 hv' I=>?_;rcases hv' with rfl | ⟨rfl,few2⟩
 ·refine goZ [uO .not (p:=.bool false) (v:=.bool true) (by intros;rfl),kC func7 zay] I fun β6 a6 w6 I hb6=>?_;exact xj (v:=.bool true) I
 by_cases q1:20000<S.length
 ·refine goZ [uO .not (p:=.bool true) (v:=.bool false) (by intros;rfl),lO underlying9 (b:=⟨S.toArray⟩) (n:=S.length) (by rw[hsz]),bO .gtr 3 (zu (x:=S.length) (y:=(20000:Nat)) (b:=true) (gtrN (decide_eq_true q1))),kC func7 zay] I fun β6 a6 w6 I hb6=>?_;exact xj (v:=.bool true) I
 have hSl:S.length≤20000:=Nat.le_of_not_lt q1;have hSW:S.length<W:=Nat.lt_of_le_of_lt hSl (by decide);have hP:=hP few1;have hD:=hD few1;have hW:=hW few1;have hX:=hX few1;have hS:=hS few1 few2;have hT:=hT few1 few2;have hO:=hO few1;refine goZ [uO .not (p:=.bool true) (v:=.bool false) (by intros;rfl),lO underlying9 (b:=⟨S.toArray⟩) (n:=S.length) (by rw[hsz]),bO .gtr 3 (zu (x:=S.length) (y:=(20000:Nat)) (b:=false) (gtrN (decide_eq_false q1)))] I fun β6 a6 w6 I6 hb6=>?_;refine yp (ss:=[Sum.inl (str S)]) func8 I6 ?_;refine(mread_any S (by omega) w6).mono fun e y1 he=>?_
 obtain⟨hb1',he⟩:=he;have hsz6:=I6.hJ.size;rcases he with⟨f,v,l',adx,capx,ady,capy,adz,capz,K,hm,rfl,hcp,hMK⟩|⟨hm,rfl⟩
 case inr=>
  have I7:=I6.moved (J':=Below w.heap.size w) (F':=(· < w.heap.size)) (zi.of_below hb1') (I6.hJ.trans (hb1'.mono hsz6)) (fun _ _ h=>h) (.tuple #[zMl,Z 2]);have hZ:∀ w',Calls prog 15 #[zMl,zMl] w' fun e w''=>e=.returned (.bool true)∧Below w'.heap.size w' w'':=fun w'=>by
   have:=rmsame_any (zMl_I w') (zMl_I w') (by decide)
   rwa [eqM_iff.2 ⟨rfl,rfl,rfl⟩]at this
  have hN:∀ w',Calls prog 9 #[str S] w' fun e w''=>e=.returned (.tuple #[zMl,Z 2])∧Below w'.heap.size w' w'':=fun w'=>(rmread_any S hSl w').mono fun e w'' he=>by
   obtain⟨hb,⟨f,v,l,adp,capp,ade,cape,ads,caps,K,h,_⟩|⟨_,he⟩⟩:=he
   ·rw[hm]at h;cases h
   ·exact⟨he,hb⟩
  refine goZ [kC func9 hN] I7 fun β8 a8 w8 I8 hb8=>?_;refine dwT (T:=Below w.heap.size w) 39 [cA func10 hP,cA func11 hD,bO .eql 4 (vj (x:=b0) (y:=b0) (b:=true) (decide_eq_true rfl)),cA func12 hW,cA func13 hX,bO .eql 9 (yt (a:=S1) (b:=S1) (q:=true) (decide_eq_true rfl)),cA func14 hS,cA func15 hT,bO .eql 4 (vj (x:=q0) (y:=q0) (b:=true) (decide_eq_true rfl)),cA func14 hO,kC func15 hZ,bO .eql 3 (z8 (x:=2) (y:=2) (b:=true) rfl),kC func7 zay] (zj w) (fun _ h=>h) zd.post I8 fun a9 w9 I9=>?_
  refine goZ [] I9 fun β10 a10 w10 I10 hb10=>?_;exact xj (v:=.bool true) I10
 obtain⟨hfit,hwr,nf,nv,ok,ln,lf⟩:=rdM_sound hSW hm;have I7:SI (fun w'=>Below w.heap.size w w'∧MlK K w6.heap.size (.slice adx f.1.length capx) (.slice ady v.2.2.2.length capy) (.slice adz l'.length capz) f v l' w') (fun k=>k<w.heap.size∨K k) [] β6 _ _ y1:=I6.moved (zi.of_below hb1') ⟨I6.hJ.trans (hb1'.mono hsz6),hMK⟩ (fun k hk h=>by
  rcases h with h|h
  ·exact h
  ·have:=(hMK.kb k h).1;omega) (.tuple #[mlV f v (.slice adx f.1.length capx) (.slice ady v.2.2.2.length capy) (.slice adz l'.length capz),Z 0])
 have R7:=(zj w).both (MlK.rs K w6.heap.size (.slice adx f.1.length capx) (.slice ady v.2.2.2.length capy) (.slice adz l'.length capz) f v l');refine goQ [] R7 I7 fun β8 a8 w8 I8 hb8=>?_;refine yp (ss:=[Sum.inl (str S)]) func9 I8 ?_;refine(rmread_any S hSl w8).mono fun e y2 he=>?_;obtain⟨hb2',he⟩:=he;rcases he with⟨f2,v2,l2,adr,capr,adh,caph,adk,capk,K2,hm2,rfl,hcp2,hMK2⟩ | ⟨hm2,rfl⟩
 case inr=>rw[hm]at hm2;cases hm2
 rw[hm]at hm2;cases hm2;have I9:SI (fun w'=>(Below w.heap.size w w'∧MlK K w6.heap.size (.slice adx f.1.length capx) (.slice ady v.2.2.2.length capy) (.slice adz l'.length capz) f v l' w')∧MlK K2 w8.heap.size (.slice adr f.1.length capr) (.slice adh v.2.2.2.length caph) (.slice adk l'.length capk) f v l' w') (fun k=>(k<w.heap.size∨K k)∨K2 k) [] β8 _ _ y2:=I8.moved (zi.of_below hb2') ⟨R7.loc w8 y2 I8.hJ (zi.of_below hb2'),hMK2⟩ (fun k hk h=>by
  rcases h with h|h
  ·exact h
  ·have:=(hMK2.kb k h).1;omega) (.tuple #[mlV f v (.slice adr f.1.length capr) (.slice adh v.2.2.2.length caph) (.slice adk l'.length capk),Z 0])
 have R9:=R7.both (MlK.rs K2 w8.heap.size (.slice adr f.1.length capr) (.slice adh v.2.2.2.length caph) (.slice adk l'.length capk) f v l')
 have hQ:∀ w',((Below w.heap.size w w'∧MlK K w6.heap.size (.slice adx f.1.length capx) (.slice ady v.2.2.2.length capy) (.slice adz l'.length capz) f v l' w')∧MlK K2 w8.heap.size (.slice adr f.1.length capr) (.slice adh v.2.2.2.length caph) (.slice adk l'.length capk) f v l' w')→Calls prog 15 #[mlV f v (.slice adx f.1.length capx) (.slice ady v.2.2.2.length capy) (.slice adz l'.length capz),mlV f v (.slice adr f.1.length capr) (.slice adh v.2.2.2.length caph) (.slice adk l'.length capk)] w' fun e w''=>e=.returned (.bool true)∧Below w'.heap.size w' w'':=fun w' h=>by
  have:=rmsame_any (h.1.2.mli hcp nf nv ok ln) (h.2.mli hcp2 nf nv ok ln) lf
  rwa [eqM_iff.2 ⟨rfl,rfl,rfl⟩]at this
 refine goQ [] R9 I9 fun β10 a10 w10 I10 hb10=>?_
 refine dwT (T:=fun w'=>(Below w.heap.size w w'∧MlK K w6.heap.size (.slice adx f.1.length capx) (.slice ady v.2.2.2.length capy) (.slice adz l'.length capz) f v l' w')∧MlK K2 w8.heap.size (.slice adr f.1.length capr) (.slice adh v.2.2.2.length caph) (.slice adk l'.length capk) f v l' w') 39 [cA func10 (fun w' h=>hP w' h.1.1),cA func11 (fun w' h=>hD w' h.1.1),bO .eql 4 (vj (x:=b0) (y:=b0) (b:=true) (decide_eq_true rfl)),cA func12 (fun w' h=>hW w' h.1.1),cA func13 (fun w' h=>hX w' h.1.1),bO .eql 9 (yt (a:=S1) (b:=S1) (q:=true) (decide_eq_true rfl)),cA func14 (fun w' h=>hS w' h.1.1),cA func15 (fun w' h=>hT w' h.1.1),bO .eql 4 (vj (x:=q0) (y:=q0) (b:=true) (decide_eq_true rfl)),cA func14 (fun w' h=>hO w' h.1.1),cA func15 hQ,bO .eql 3 (z8 (x:=0) (y:=0) (b:=true) rfl),kC func7 zay] R9 (fun _ h=>h) zd.post I10 fun a11 w11 I11=>?_
 refine goQ [] R9 I11 fun β12 a12 w12 I12 hb12=>?_;exact zh (v:=.bool true) I12 ⟨rfl,I12.hJ.1.1⟩
end Go.Proofs.YtdeompgdhaomgaaGreatDoor
