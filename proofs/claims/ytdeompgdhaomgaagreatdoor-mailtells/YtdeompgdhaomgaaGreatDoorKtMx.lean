/- Out of Mx. -/
import Derived.Test.YtdeompgdhaomgaaGreatDoorKtTv
namespace Go.Proofs.YtdeompgdhaomgaaGreatDoor
open Go.RowKit Go.Sort Go.Proofs.Tryz
set_option linter.unusedVariables false
set_option maxRecDepth 100000
set_option maxHeartbeats 4000000
section
variable {P:Program} {T:World→Prop} {fo:Nat→Nat→Option Nat} {io:Nat→Int→Option Nat} {ze:Nat→Option (Array Value)} {ops:Array Oper} {tm:Vs} {rows:Rows} {sp:Spt}
theorem drawG{J:World→Prop}{F:Nat→Prop}{ds:List Deferred}{β:Nat→Nat}{c:Cf}{a:Act}{w:World}{Q:Exit→Act→World→Prop}(Y:Ty P fo io ze)(R:yw J F)(hT:∀ w,J w→T w){ks:List Ki}{fs us:List (Fa P T)}{vals:Vs}{e:List (Value×Value)}(G:Nat→Prop)(hFG:∀ k,F k→G k)(hRG:∀ p∈c.rows,G (β p.1))(C:Array Bool→(Nat→Value)→World→Prop)(hC0:∀ w1,Below w.heap.size w w1→C (Array.replicate ops.size false) (fun _=>undef) w1)(hCk:∀ za vs w' w'' i v,yi sp i=none→C za vs w'→Below w'.heap.size w' w''→C (za.setIfInBounds i true) (fun j=>if j=i then v else vs j) w'')(hc:drQ c=some (ops,ks))(hg:goS P T fo io sp ops c.tm c.rows ops.toList 0 [] fs=some (vals,us,e))(he:∀ p∈e,p.1=p.2)(hb:qi ops=true)(hB:kn ops=true)(hgs:gsB ops sp=true)(hds:dstB ops c.tm.length=true)(hids:xo (tmS ops sp c.tm vals fun _=>undef) c.nx=true)(I:SI J F ds β c a w)(hsp:∀ i x o,yi sp i=some x→ops[i]? = some o→∀ za vs a' w',Frm ops vs a za a'→i∈Region.ready .any ops za→zi G w w'→C za vs w'→(∀ x s,evS ops c.tm (vals.take i) i x=some s→a'.eval x=up β s) →
   wpG ops o P a' w' (fun a'' w''=>∃ v,a''=a'.put o.dst v∧(∀ u,x=some u→v=u)∧C (za.setIfInBounds i true) (fun j=>if j=i then v else vs j) w''∧zi G w' w'') (QK P Q ks))(k:∀ za vs a' w',(∀ j,j<ops.size→za.getD j false=true)→C za vs w'→SI J F ds β { ops:=#[],rest:=[],ks:=ks,tm:=tmS ops sp c.tm vals vs,rows:=c.rows,nx:=c.nx,dn:=none } a' w'→At P Q { ops:=#[],rest:=[],ks:=ks,tm:=tmS ops sp c.tm vals vs,rows:=c.rows,nx:=c.nx,dn:=none } a' w'):At P Q c a w:=by
 obtain⟨hvl,_,hspec⟩:=zbz (k:=0) (v0:=[]) rfl hg he;have htm:a.tmps.size=c.tm.length:=by rw[I.fr];simp
 have dl:∀ t j,wr ops t=some j→t<a.tmps.size:=fun t j h=>by rw[htm];exact dstB_ok hds h
 have hsv:∀ j x,yi sp j=some x→j<ops.size→vals[j]? = some (x.map Sum.inl):=fun j x hx hj=>by
  have:=(hspec j ops[j] (by simp[hj])).1 x (by rw[Nat.zero_add];exact hx)
  rwa [Nat.zero_add]at this
 have hrw:∀ p∈c.rows,∀{w':World},zi G w w'→zb w' (β p.1) p.2:=fun p hp w' g=>by
  obtain⟨t,ht⟩:=I.row p hp;exact⟨t,(g.block _ (I.row p hp).lt (hRG p hp)).trans ht⟩
 refine at_reg Y.hm hc ?_;refine vu hb hB (fun za vs w'=>DS ops sp β vals (fun _ _ _=>True) { w with heap:=#[] } za vs w'∧zi G w w'∧C za vs w') ?_ ?_ ?_
 ·intro w1 h1;have hf:∀ j,¬ (Array.replicate ops.size false).getD j false=true:=fun j h=>by
   rw[Array.getD_eq_getD_getElem?,Array.getElem?_replicate]at h;split at h<;>simp at h
  have hbl:Below w.heap.size w w1:=by
   rcases h1 with rfl|rfl
   ·exact Below.refl _ _
   ·exact⟨rfl,rfl,rfl,Nat.le_refl _,fun _ _=>rfl⟩
  exact⟨⟨⟨hbl.os,hbl.tape,hbl.output,Nat.zero_le _,fun k hk=>absurd hk (Nat.not_lt_zero k)⟩,fun j k _ h=>absurd h (hf k),fun j h=>absurd h (hf j),fun j x h=>absurd h (hf j)⟩,zi.of_below hbl,hC0 w1 hbl⟩
 ·rintro za vs a' w' i o hs ho hi hF ⟨D,Gr,hC⟩;have hun:=zai hi hs;have hio:i<ops.size:=(Array.getElem?_eq_some_iff.1 ho).1;have hev:∀ x s,evS ops c.tm (vals.take i) i x=some s→a'.eval x=up β s:=fun x s h=>evF_ok D hsv hF I.fr hs hi h
  have wt':∀ j k,ya ops k j=true→(za.setIfInBounds i true).getD k false=true→(za.setIfInBounds i true).getD j false=true:=fun j k hw hk=>by
   rcases zm hk with rfl|hk
   ·exact z6 (zk hw hi)
   ·exact z6 (D.wt j k hw hk)
  cases hsi:yi sp i with
  | some x=>
   refine yq (fun a'' w'' h=>?_) (hsp i x o hsi ho za vs a' w' hF hi Gr hC hev);obtain⟨v,rfl,h1,h2,h3⟩:=h;refine⟨v,rfl,⟨⟨h3.os.trans D.bw.os,h3.tape.trans D.bw.tape,h3.output.trans D.bw.output,Nat.zero_le _,fun k hk=>absurd hk (Nat.not_lt_zero k)⟩,wt',fun j hj hn=>?_,fun j y hj hy=>?_⟩,Gr.trans h3,h2⟩
   ·have hji:j≠i:=fun e=>by rw[e,hsi]at hn;cases hn
    simp only[if_neg hji];exact D.rk j ((zm hj).resolve_left hji) hn
   ·by_cases hji:j=i
    ·subst hji;rw[hsi]at hy;cases hy;simp only[if_true];exact⟨trivial,h1⟩
    ·simp only[if_neg hji];obtain⟨a1,a2⟩:=D.sv j y ((zm hj).resolve_left hji) hy;exact⟨trivial,a2⟩
  | none=>
   obtain⟨f,s,e',hq,he',hvi⟩:=(hspec i o (by simpa using ho)).2 (by rw[Nat.zero_add];exact hsi);rw[Nat.zero_add]at hq hvi;have next:∀ v w2,v=upO β s→Below w'.heap.size w' w2→∃ v',a'.put o.dst v=a'.put o.dst v'∧(DS ops sp β vals (fun _ _ _=>True) { w with heap:=#[] } (za.setIfInBounds i true) (fun j=>if j=i then v' else vs j) w2∧zi G w w2∧C (za.setIfInBounds i true) (fun j=>if j=i then v' else vs j) w2):=by
    intro v w2 hv hb2;refine⟨v,rfl,⟨D.bw.trans (hb2.mono (Nat.zero_le _)),wt',fun j hj hn=>?_,fun j y hj hy=>?_⟩,Gr.trans (zi.of_below hb2),hCk za vs w' w2 i v hsi hC hb2⟩
    ·by_cases hji:j=i
     ·subst hji;simp only[if_true];rw[hvi,hv];rfl
     ·simp only[if_neg hji];exact D.rk j ((zm hj).resolve_left hji) hn
    ·have hji:j≠i:=fun e=>by rw[e,hsi]at hy;cases hy
     simp only[if_neg hji];obtain⟨a1,a2⟩:=D.sv j y ((zm hj).resolve_left hji) hy;exact⟨trivial,a2⟩
   have hgo:∀ j b,o.guard=some (j,b)→yi sp j=none:=fun j b hg=>by
    unfold gsB at hgs;have:=Array.all_eq_true.1 hgs i hio;rw[Array.getElem?_eq_some_iff]at ho;obtain⟨_,ho⟩:=ho;rw[ho,hg]at this;simpa using this
   unfold qop at hq;split at hq
   ·next hw=>
    cases hq;have hnw:=vh D hsv hF hB dl hi hgo hw;unfold wpG;rw[hnw];simp only[Bool.false_eq_true,if_false];exact next undef w' rfl (Below.refl _ _)
   ·cases hq
   ·next hw=>
    have hnw:=vh D hsv hF hB dl hi hgo hw;unfold wpG;rw[hnw];simp only[if_true];have hJ':J w':=R.loc w w' I.hJ (Gr.mono hFG);have hevL:∀{xs:List Operand} {us:List Value},(xs.mapM fun x=>plain (evS ops c.tm (vals.take i) i x))=some us→xs.map a'.eval=us:=by
     intro xs
     induction xs with
     | nil=>intro us h;simp at h;subst h;rfl
     | cons x xs ih=>
      intro us h;rw[List.mapM_cons]at h;cases h1:plain (evS ops c.tm (vals.take i) i x)with
      | none=>rw[h1]at h;simp at h
      | some v=>
       cases h2:(xs.mapM fun x=>plain (evS ops c.tm (vals.take i) i x))with
       | none=>rw[h1,h2]at h;simp at h
       | some us'=>
        rw[h1,h2]at h;simp at h;subst h;rw[List.map_cons,ih h2,hev _ _ (zp h1)];rfl
    split at hq
    ·simp only[Option.map_eq_some_iff,Prod.mk.injEq]at hq;obtain⟨sv,hn,rfl,rfl⟩:=hq;exact zb3 Y hev (fun id r h=>hrw _ (zy h) Gr) hn fun w2 hb2=>next _ w2 rfl hb2
    ·next f=>
     split at hq
     ·next g xs ts hop=>
      split at hq
      ·next hfg=>
       subst hfg;simp only[Option.map_eq_some_iff,Prod.mk.injEq]at hq;obtain⟨us',hm2,rfl,rfl⟩:=hq;have h1:=hevL hm2;have h2:=he' _ (List.mem_singleton.2 rfl);simp only[Value.tuple.injEq]at h2;refine Oper.wp_mono ?_ (zae f.f xs ts hop (vs:=f.args) ?_ (f.hr xs ts) (f.hc w' (hT w' hJ')))
       ·rintro a2 w2 ⟨rfl,hb2⟩;exact next _ w2 rfl hb2
       ·rw[← h2,← h1];apply Array.ext';simp
      ·cases hq
     ·cases hq
    ·next f=>
     split at hq
     ·next hok=>
      simp only[Option.map_eq_some_iff,Prod.mk.injEq]at hq;obtain⟨us',hm2,rfl,rfl⟩:=hq;have h1:=hevL hm2;have h2:=he' _ (List.mem_singleton.2 rfl);simp only[Value.tuple.injEq]at h2;exact xb (f.h a' w' o (.inr (hT w' hJ')) hok (by rw[h1,h2])) (next _ w' rfl (Below.refl _ _))
     ·cases hq
 ·rintro za vs a' w' hd hF ⟨D,Gr,hC⟩;have hfr:a'.tmps=((tmS ops sp c.tm vals vs).map (upO β)).toArray:=by
   apply Array.ext_getElem?;intro t;by_cases ht:t<a.tmps.size
   ·have ht':t<c.tm.length:=by omega
    rw[hF.2.2 t ht];have e0:a.tmps[t]? = some (upO β (c.tm[t]?).join):=by
     rw[I.fr];simp[List.getElem?_eq_getElem ht']
    simp only[List.getElem?_toArray,tmS,List.getElem?_map,List.getElem?_range ht',Option.map_some];cases hw:wr ops t with
    | none=>exact e0
    | some j=>
     have hj:=(zb4 hw).2;simp only[];rw[if_pos (hd j hj)];cases hs:yi sp j with
     | none=>simp only[];rw[D.rk j (hd j hj) hs]
     | some x=>rfl
   ·rw[Array.getElem?_eq_none (by have:=hF.2.1;omega),Array.getElem?_eq_none (by simp[tmS];omega)]
  have:=(k za vs a' w' hd hC ⟨hfr,hF.1.trans I.df,R.loc w w' I.hJ (Gr.mono hFG),fun p hp=>hrw p hp Gr,I.dis,I.lt,I.inj,ids_tmS hids⟩).out;exact this
end
section
variable {P:Program} {J:World→Prop} {F:Nat→Prop} {ds:List Deferred} {β:Nat→Nat} {c:Cf} {a:Act} {w:World} {Q:Exit→Act→World→Prop}
theorem dwG{T:World→Prop}(sp:Spt)(fs:List (Fa P T))(G:Nat→Prop)(hFG:∀ k,F k→G k)(hRG:∀ p∈c.rows,G (β p.1))(C:Array Bool→(Nat→Value)→World→Prop)(hC0:∀ w1,Below w.heap.size w w1→C (Array.replicate (z9 c).size false) (fun _=>undef) w1)(hCk:∀ za vs w' w'' i v,yi sp i=none→C za vs w'→Below w'.heap.size w' w''→C (za.setIfInBounds i true) (fun j=>if j=i then v else vs j) w'')(R:yw J F)(hT:∀ w,J w→T w)(I:SI J F ds β c a w)(hsp:∀ p∈sp,∀ o,(z9 c)[p.1]? = some o→∀ za vs a' w',Frm (z9 c) vs a za a'→p.1∈Region.ready .any (z9 c) za→zi G w w'→C za vs w'→(∀ x s,evS (z9 c) c.tm ((valsD P sp fs c).take p.1) p.1 x=some s→a'.eval x=up β s) →
   wpG (z9 c) o P a' w' (fun a'' w''=>∃ v,a''=a'.put o.dst v∧(∀ u,p.2=some u→v=u)∧C (za.setIfInBounds p.1 true) (fun j=>if j=p.1 then v else vs j) w''∧zi G w' w'') (QK P Q (ksD c)))(k:∀ za vs a' w',(∀ j,j<(z9 c).size→za.getD j false=true)→C za vs w'→SI J F ds β (dsC P sp fs c vs) a' w'→At P Q (dsC P sp fs c vs) a' w')(hm:P.follows .mixedOrders=true:=by kernel_rfl)(hs:(dsX P sp fs c).isSome=true:=by kernel_rfl)(he:(dsX P sp fs c).map (fun r=>r.2.map (·.1))=(dsX P sp fs c).map (fun r=>r.2.map (·.2)):=by kernel_rfl):At P Q c a w:=by
 cases hx:dsX P sp fs c with
 | none=>rw[hx]at hs;cases hs
 | some r=>
  unfold valsD at hsp;unfold dsC valsD at k;rw[hx]at he k hsp;unfold dsX at hx;unfold z9 ksD at hsp k;unfold z9 at hC0;split at hx
  ·next ops ks hc=>
   rw[hc]at hsp k hC0;split at hx
   ·next vals us e hg=>
    split at hx
    ·next hb=>
     cases hx;simp only[Option.map_some,Option.some.injEq,Option.getD_some]at he k hsp hC0;simp only[Bool.and_eq_true]at hb;exact drawG (ty_ok hm) R hT G hFG hRG C hC0 hCk hc hg (zb2 he) hb.1.1.1.1 hb.1.1.1.2 hb.1.1.2 hb.1.2 hb.2 I (fun i x o hx ho=>hsp (i,x) (za1 hx) o ho) k
    ·cases hx
   ·cases hx
  ·cases hx
theorem SI.sub(I:SI J F ds β c a w)(rows':Rows)(h:∀ p∈rows',p∈c.rows):SI J F ds β { c with rows:=rows' } a w:=⟨I.fr,I.df,I.hJ,fun p hp=>I.row p (h p hp),fun p hp=>I.dis p (h p hp),fun p hp=>I.lt p (h p hp),fun p hp q hq=>I.inj p (h p hp) q (h q hq),I.ids⟩
theorem At.sub(rows':Rows)(h:At P Q { c with rows:=rows' } a w):At P Q c a w:=⟨h.out⟩
end
section
variable {J:World→Prop} {F:Nat→Prop} {ds:List Deferred} {β:Nat→Nat} {c:Cf} {a:Act} {w:World} {Q:Exit→Act→World→Prop}
theorem dwW{T:World→Prop}(t is d id x:Nat)(r0:Array Value)(v:Value)(hvr:v.cells=r0)(hin:(prog.info? t).map (·.size)=some r0.size)(h1c:r0.all (·.oneCell')=true)(hov:∀ c:Array Value,c.size=r0.size→over c 0 r0=r0)(rows':Rows)(fs:List (Fa prog T))(R:yw J F)(hT:∀ w,J w→T w)(I:SI J F ds β c a w)(k:∀ vs a' w',SI J F ds β { (dsC prog [(is,none)] fs { c with rows:=rows' } vs)with rows:=(id,r0)::rows' } a' w'→At prog Q { (dsC prog [(is,none)] fs { c with rows:=rows' } vs)with rows:=(id,r0)::rows' } a' w')(hd8:(c.tm[d]?).join=some (Sum.inr (id,0)):=by kernel_rfl)(hw8:wr (z9 c) d=none:=by kernel_rfl)(hsz:decide (d<c.tm.length∧is<(z9 c).size)=true:=by kernel_rfl)(hrow:(y9 c.rows id).map (·.size)=some r0.size:=by kernel_rfl)(hrr:(rows'.map fun p=>y9 c.rows p.1)=rows'.map fun p=>some p.2:=by kernel_rfl)(hri:(rows'.all fun p=>decide (p.1≠id))=true:=by kernel_rfl)(h2:((z9 c)[is]?).map (fun o=>(o.op,o.dst,o.guard))=some (.store t (.tmp d) (.tmp x),none,none):=by kernel_rfl)(h5:evS (z9 c) c.tm ((valsD prog [(is,none)] fs { c with rows:=rows' }).take is) is (.tmp x)=some (Sum.inl v):=by kernel_rfl)(hs:(dsX prog [(is,none)] fs { c with rows:=rows' }).isSome=true:=by kernel_rfl)(he:(dsX prog [(is,none)] fs { c with rows:=rows' }).map (fun r=>r.2.map (·.1))=(dsX prog [(is,none)] fs { c with rows:=rows' }).map (fun r=>r.2.map (·.2)):=by kernel_rfl):At prog Q c a w:=by
 obtain⟨hdl,hisl⟩:=of_decide_eq_true hsz;have look:∀ p∈rows',p∈c.rows:=fun p hp=>by
  obtain⟨i,hi⟩:=List.mem_iff_getElem?.1 hp;have h5:=congrArg (·[i]?) hrr;simp only[List.getElem?_map,hi,Option.map_some,Option.some.injEq]at h5;exact zy h5
 obtain⟨r8,hr8,hs8⟩:∃ r,y9 c.rows id=some r∧r.size=r0.size:=by
  cases hq:y9 c.rows id with
  | none=>rw[hq]at hrow;cases hrow
  | some r=>rw[hq]at hrow;exact⟨r,rfl,by simpa using hrow⟩
 have hm8:=zy hr8;have hH8:zb w (β id) r8:=I.row _ hm8;have hF8:¬ F (β id):=I.dis _ hm8;have hne8:∀ p∈rows',β p.1≠β id:=fun p hp=>I.inj p (look p hp) _ hm8 (by simpa using List.all_eq_true.1 hri p hp)
 have hbit:∀{i:Nat} {za:Array Bool},i∈Region.ready .any (z9 c) za→i<za.size∧¬ za.getD i false=true:=by
  intro i za hrd;obtain⟨hun,o',ho',_⟩:=mem_ready.1 hrd;have hlt:i<za.size:=by
   rcases Nat.lt_or_ge i za.size with h|h
   ·exact h
   ·rw[Array.getD_eq_getD_getElem?,Array.getElem?_eq_none h]at hun;cases hun
  refine⟨hlt,fun h=>?_⟩;simp[Array.getD,hlt]at hun h;rw[hun]at h;cases h
 have grB:∀{w1 w2:World},Below w1.heap.size w1 w2→zi (fun k=>k≠β id) w1 w2:=fun h=>zi.of_below h
 refine At.sub rows' ?_;refine dwG (T:=T) [(is,none)] fs (fun k=>k≠β id) (fun k hk e=>hF8 (e ▸ hk)) (fun p hp=>hne8 p hp)
  (fun za vs w'=>∃ r,r.size=r0.size∧zb w' (β id) r∧(za.getD is false=true→r=r0)) (fun w1 hb=>by
   have hf:∀ n j,¬ (Array.replicate n false).getD j false=true:=fun n j h=>by
    rw[Array.getD_eq_getD_getElem?,Array.getElem?_replicate]at h;split at h<;>simp at h
   exact⟨r8,hs8,hH8.below hb,fun h=>absurd h (hf _ _)⟩) (fun za vs w' w'' i v hsi h hb=>by
   have hi2:i≠is:=fun e=>by
    subst e;unfold yi at hsi;rw[Option.map_eq_none_iff,List.find?_eq_none]at hsi;exact hsi (i,none) List.mem_cons_self (by simp)
   obtain⟨r,q1,q2,q3⟩:=h;exact⟨r,q1,q2.below hb,fun h12=>q3 ((zm h12).resolve_left fun e=>hi2 e.symm)⟩) R hT (I.sub rows' look) ?_ ?_ (by kernel_rfl) hs he
 ·intro q hq o ho za vs a' w' hF hrd hbw hC hev;obtain⟨r,q1,q2,q3⟩:=hC;obtain rfl:=List.mem_singleton.1 hq;obtain⟨o1,o2,o3⟩:=ym ho h2;obtain⟨hlt,_⟩:=hbit hrd;have e1:a'.eval (.tmp d)=.pointer (some ⟨β id,0,none⟩):=by
   have h3:=hF.2.2 d (by rw[I.fr];simpa using hdl);have hw8':wr (z9 { c with rows:=rows' }) d=none:=hw8;rw[hw8']at h3;have h4:a.tmps[d]? = some (upO β (c.tm[d]?).join):=by
    rw[I.fr];simp[List.getElem?_eq_getElem hdl]
   simp only[]at h3;rw[h4,hd8]at h3;show a'.tmps.getD d undef=_;rw[Array.getD_eq_getD_getElem?,h3];rfl
  have e2:a'.eval (.tmp x)=v:=hev (.tmp x) (Sum.inl v) h5;refine yg o3 (Oper.wp_mono ?_ (v5 t (.tmp d) (.tmp x) o1 (g:=β id) (off:=0) e1 e2 (cs:=r0) hvr q2 hin (by rw[q1];omega) h1c (e:=over r 0 r0) rfl));rintro a2 w2 ⟨rfl,rfl⟩;rw[hov r q1];have hg:zi (fun k=>k≠β id) w' (w'.setRow (β id) r0):=by
   refine⟨rfl,rfl,rfl,by simp[World.setRow],fun k hk hne=>?_⟩;simp[World.setRow,Array.getElem?_modify,Ne.symm hne]
  exact⟨undef,rfl,fun u hu=>(by cases hu),⟨r0,rfl,q2.set_same _,fun _=>rfl⟩,hg⟩
 ·intro za vs a9 w9 hall hC I9;obtain⟨r,q1,q2,q3⟩:=hC;have hr:=q3 (hall is hisl);subst hr;refine At.sub ((id,r)::rows') (k vs a9 w9 ⟨I9.fr,I9.df,I9.hJ,fun p hp=>?_,fun p hp=>?_,fun p hp=>?_,fun p hp p' hp' hne=>?_,I9.ids⟩)
  ·rcases List.mem_cons.1 hp with rfl|hp
   ·exact q2
   ·exact I9.row p hp
  ·rcases List.mem_cons.1 hp with rfl|hp
   ·exact hF8
   ·exact I9.dis p hp
  ·rcases List.mem_cons.1 hp with rfl|hp
   ·exact(I.lt (id,r8) hm8:id<c.nx)
   ·exact I9.lt p hp
  ·rcases List.mem_cons.1 hp with rfl|hp<;>rcases List.mem_cons.1 hp' with rfl|hp'
   ·exact absurd rfl hne
   ·exact fun e=>hne8 p' hp' e.symm
   ·exact hne8 p hp
   ·exact I9.inj p hp p' hp' hne
end
end Go.Proofs.YtdeompgdhaomgaaGreatDoor
