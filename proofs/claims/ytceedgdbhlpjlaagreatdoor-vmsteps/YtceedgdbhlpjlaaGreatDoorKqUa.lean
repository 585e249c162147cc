/- Laid one behind the other: Ua, Wx, Yp. -/
import Derived.Test.YtceedgdbhlpjlaaGreatDoorKqKb
namespace Go.Proofs.YtceedgdbhlpjlaaGreatDoor
open Go.RowKit Go.Sort Tryz
set_option linter.unusedVariables false
set_option maxRecDepth 100000
set_option maxHeartbeats 4000000
theorem at_reg{P:Program}{Q:Exit→Act→World→Prop}{c:Cf}{a:Act}{w:World}{ops:Array Oper}{ks:List Ki}(hm:P.follows .mixedOrders=true)(hc:drQ c=some (ops,ks))(h:RegV P ops (QK P Q ks) a w):At P Q c a w:=by
 unfold drQ at hc;split at hc
 ·next rid ops' ks' hd hr hk=>
  cases hc;refine⟨?_⟩;unfold AtD;rw[hd,hr,hk];show(Code.region rid ops true).wp P (QK P Q ks) a w;exact RegV.wp hm h
 ·cases hc
abbrev Spt:Type:=List (Nat×Option Value)
def qu (sp:Spt) (j:Nat):Option (Option Value):=(sp.find? fun p=>p.1 == j).map (·.2)
theorem spec_mem{sp:Spt}{j:Nat}{x:Option Value}(h:qu sp j=some x):(j,x)∈sp:=by
 unfold qu at h;rw[Option.map_eq_some_iff]at h;obtain⟨p,h1,h2⟩:=h;have h3:=List.find?_some h1;have h4:=List.mem_of_find?_eq_some h1;simp only[beq_iff_eq]at h3;obtain⟨p1,p2⟩:=p;simp only at h2 h3;subst h2 h3;exact h4
theorem mem_spec{sp:Spt}{p:Nat×Option Value}(h:p∈sp):∃ x,qu sp p.1=some x:=by
 unfold qu;cases hq:sp.find? fun q=>q.1 == p.1 with
 | none=>
  have:=List.find?_eq_none.1 hq p h;simp at this
 | some q=>exact⟨q.2,rfl⟩
section
variable (P:Program) (T:World→Prop) (fo:Nat→Nat→Option Nat) (io:Nat→Int→Option Nat)
def goS (sp:Spt) (ops:Array Oper) (tm:Vs) (rows:Rows):List Oper→Nat→Vs→List (Fa P T)→Option (Vs×List (Fa P T)×List (Value×Value))
 | [],_,vals,_=>some (vals,[],[])
 | o::os,k,vals,fs=>match qu sp k with
  | some x=>(goS sp ops tm rows os (k+1) (vals++[x.map Sum.inl]) fs).map fun r=>(r.1,Sum.inl ()::r.2.1,r.2.2)
  | none=>match qop P T fo io ops tm rows vals k o (Sum.inl ())with
   | some (s,e)=>(goS sp ops tm rows os (k+1) (vals++[s]) fs).map fun r=>(r.1,Sum.inl ()::r.2.1,e++r.2.2)
   | none=>match fs with
    | []=>none
    | f::fs'=>match qop P T fo io ops tm rows vals k o f with
     | some (s,e)=>(goS sp ops tm rows os (k+1) (vals++[s]) fs').map fun r=>(r.1,f::r.2.1,e++r.2.2)
     | none=>none
end
def tmS (ops:Array Oper) (sp:Spt) (tm vals:Vs) (vs:Nat→Value):Vs:=(List.range tm.length).map fun t=>match wr ops t with
 | some j=>(match qu sp j with
  | some _=>some (Sum.inl (vs j))
  | none=>(vals[j]?).join)
 | none=>(tm[t]?).join
theorem ids_tmS{ops:Array Oper}{sp:Spt}{tm vals:Vs}{vs:Nat→Value}{nx:Nat}(h:va (tmS ops sp tm vals fun _=>undef) nx=true):va (tmS ops sp tm vals vs) nx=true:=by
 unfold va tmS at h ⊢;rw[List.all_map,List.all_eq_true]at h ⊢;intro t ht;have:=h t ht;simp only[Function.comp]at this ⊢;cases hw:wr ops t with
 | none=>rw[hw]at this;exact this
 | some j=>
  rw[hw]at this;simp only at this ⊢;cases hs:qu sp j with
  | none=>rw[hs]at this;exact this
  | some x=>rfl
section
variable {P:Program} {T:World→Prop} {fo:Nat→Nat→Option Nat} {io:Nat→Int→Option Nat} {ze:Nat→Option (Array Value)} {ops:Array Oper} {tm:Vs} {rows:Rows} {sp:Spt}
theorem goS_spec:∀{os:List Oper} {k:Nat} {v0 vals:Vs} {fs us:List (Fa P T)} {e:List (Value×Value)},v0.length=k→goS P T fo io sp ops tm rows os k v0 fs=some (vals,us,e)→(∀ p∈e,p.1=p.2) →
  vals.length=k+os.length∧vals.take k=v0∧∀ j o,os[j]? = some o→(∀ x,qu sp (k+j)=some x→vals[k+j]? = some (x.map Sum.inl))∧(qu sp (k+j)=none→∃ f s e',qop P T fo io ops tm rows (vals.take (k+j)) (k+j) o f=some (s,e')∧(∀ p∈e',p.1=p.2)∧vals[k+j]? = some s)
 | [],k,v0,vals,fs,us,e,hk,h,he=>by
  simp only[goS,Option.some.injEq,Prod.mk.injEq]at h;obtain⟨rfl,rfl,rfl⟩:=h;exact⟨by simp[hk],by rw[← hk,List.take_length],fun j o ho=>by simp at ho⟩
 | o::os,k,v0,vals,fs,us,e,hk,h,he=>by
  have main:∀{s:Option SV} {e1:List (Value×Value)} {fs' us':List (Fa P T)} {e2:List (Value×Value)},((∀ x,qu sp k=some x→s=x.map Sum.inl)∧(qu sp k=none→∃ f,qop P T fo io ops tm rows v0 k o f=some (s,e1)))→goS P T fo io sp ops tm rows os (k+1) (v0++[s]) fs'=some (vals,us',e2)→e=e1++e2 →
    vals.length=k+(o::os).length∧vals.take k=v0∧∀ j o',(o::os)[j]? = some o'→(∀ x,qu sp (k+j)=some x→vals[k+j]? = some (x.map Sum.inl))∧(qu sp (k+j)=none→∃ f s e',qop P T fo io ops tm rows (vals.take (k+j)) (k+j) o' f=some (s,e')∧(∀ p∈e',p.1=p.2)∧vals[k+j]? = some s):=by
   intro s e1 fs' us' e2 hq hg hee;subst hee;obtain⟨h1,h2,h3⟩:=goS_spec (by simp[hk]) hg fun p hp=>he p (List.mem_append_right _ hp)
   have ht:vals.take k=v0:=by
    have:=congrArg (List.take k) h2;rw[List.take_take,Nat.min_eq_left (Nat.le_succ k),List.take_append_of_le_length (by omega),← hk,List.take_length]at this;rw[← hk];exact this
   have hvk:vals[k]? = some s:=by
    have:=congrArg (·[k]?) h2;simp only[List.getElem?_take,Nat.lt_succ_self,if_true]at this;rw[this];simp[hk]
   refine⟨by simp only[List.length_cons];omega,ht,fun j o' ho=>?_⟩;cases j with
   | zero=>
    simp only[List.getElem?_cons_zero,Option.some.injEq]at ho;subst ho;rw[Nat.add_zero];refine⟨fun x hx=>by rw[hvk,hq.1 x hx],fun hn=>?_⟩;obtain⟨f,hf⟩:=hq.2 hn;exact⟨f,s,e1,by rw[ht];exact hf,fun p hp=>he p (List.mem_append_left _ hp),hvk⟩
   | succ j=>
    have:=h3 j o' (by simpa using ho);rw[show k+(j+1)=k+1+j by omega];exact this
  simp only[goS]at h;split at h
  ·next x hx=>
   simp only[Option.map_eq_some_iff,Prod.mk.injEq]at h;obtain⟨⟨v,u,e2⟩,hg,rfl,rfl,rfl⟩:=h;exact main (e1:=[]) ⟨fun y hy=>(by rw[hx]at hy;cases hy;rfl),fun hn=>(by rw[hx]at hn;cases hn)⟩ hg rfl
  ·next hx=>
   split at h
   ·next s e1 hq=>
    simp only[Option.map_eq_some_iff,Prod.mk.injEq]at h;obtain⟨⟨v,u,e2⟩,hg,rfl,rfl,rfl⟩:=h;exact main ⟨fun y hy=>(by rw[hx]at hy;cases hy),fun _=>⟨_,hq⟩⟩ hg rfl
   ·split at h
    ·cases h
    ·next f fs'=>
     split at h
     ·next s e1 hq=>
      simp only[Option.map_eq_some_iff,Prod.mk.injEq]at h;obtain⟨⟨v,u,e2⟩,hg,rfl,rfl,rfl⟩:=h;exact main ⟨fun y hy=>(by rw[hx]at hy;cases hy),fun _=>⟨_,hq⟩⟩ hg rfl
     ·cases h
structure DS (ops:Array Oper) (sp:Spt) (β:Nat→Nat) (vals:Vs) (V:Nat→Value→World→Prop) (w:World) (zb:Array Bool) (vs:Nat→Value) (w':World):Prop where
 bw:Below w.heap.size w w'
 wt:∀ j k,xa ops k j=true→zb.getD k false=true→zb.getD j false=true
 rk:∀ j,zb.getD j false=true→qu sp j=none→vs j=upO β (vals[j]?).join
 sv:∀ j x,zb.getD j false=true→qu sp j=some x→V j (vs j) w'∧∀ u,x=some u→vs j=u
theorem DS.val{β:Nat→Nat}{vals:Vs}{V:Nat→Value→World→Prop}{w w':World}{zb:Array Bool}{vs:Nat→Value}(D:DS ops sp β vals V w zb vs w')(hs:∀ j x,qu sp j=some x→j<ops.size→vals[j]? = some (x.map Sum.inl)){j:Nat}(hj:j<ops.size)(hl:zb.getD j false=true){s:SV}(h:(vals[j]?).join=some s):vs j=up β s:=by
 cases hq:qu sp j with
 | none=>rw[D.rk j hl hq,h];rfl
 | some x=>
  have h1:=hs j x hq hj;rw[h1]at h;cases x with
  | none=>cases h
  | some u=>
   simp only[Option.map_some,Option.join_some,Option.some.injEq]at h;subst h;exact(D.sv j _ hl hq).2 u rfl
theorem evF_ok{β:Nat→Nat}{vals:Vs}{V:Nat→Value→World→Prop}{w w':World}{a a':Act}{zb:Array Bool}{vs:Nat→Value}(D:DS ops sp β vals V w zb vs w')(hsv:∀ j x,qu sp j=some x→j<ops.size→vals[j]? = some (x.map Sum.inl))(hF:Frm ops vs a zb a')(ha:a.tmps=(tm.map (upO β)).toArray){i:Nat}(hs:zb.size=ops.size)(hi:i∈Region.ready .any ops zb){x:Operand}{s:SV}(h:evS ops tm (vals.take i) i x=some s):a'.eval x=up β s:=by
 have hun:=ya hi hs;cases x with
 | const v=>simp only[evS,Option.some.injEq]at h;subst h;rfl
 | tmp t=>
  simp only[evS]at h;cases hw:wr ops t with
  | none=>rw[hw]at h;rw[hF.old hw];exact zaq ha h
  | some j=>
   rw[hw]at h;simp only[]at h;by_cases hn:newB ops tm.length i t j=true
   ·rw[if_pos hn]at h;simp only[newB,Bool.and_eq_true,beq_iff_eq,decide_eq_true_eq]at hn;have hl:=zf hn.1.2 hi;have h2:=join_some h;rw[List.getElem?_take]at h2;split at h2
    ·next hlt=>
     rw[hF.new hw (by rw[ha];simpa using hn.2) hl];exact D.val hsv (wr_dst hw).2 hl (by rw[h2];rfl)
    ·cases h2
   ·rw[if_neg hn]at h;by_cases hq:xa ops j i=true
    ·rw[if_pos hq]at h;have hnl:¬ zb.getD j false=true:=fun hl=>hun (D.wt i j hq hl)
     rw[← zaq ha h];show a'.tmps.getD t undef=a.tmps.getD t undef;rw[Array.getD_eq_getD_getElem?,Array.getD_eq_getD_getElem?];by_cases ht:t<a.tmps.size
     ·rw[hF.2.2 t ht,hw];simp only[if_neg hnl]
     ·have h1:a.tmps.size≤t:=Nat.le_of_not_lt ht;have h2:a'.tmps.size≤t:=by rw[hF.2.1];exact h1
      rw[Array.getElem?_eq_none h2,Array.getElem?_eq_none h1]
    ·rw[if_neg hq]at h;cases h
 | global g=>simp[evS]at h
 | func f=>simp[evS]at h
theorem wantS_ok{β:Nat→Nat}{vals:Vs}{V:Nat→Value→World→Prop}{w w':World}{a a':Act}{zb:Array Bool}{vs:Nat→Value}(D:DS ops sp β vals V w zb vs w')(hsv:∀ j x,qu sp j=some x→j<ops.size→vals[j]? = some (x.map Sum.inl))(hF:Frm ops vs a zb a'){i:Nat}{o:Oper}(hB:zbx ops=true)(hdl:∀ t j,wr ops t=some j→t<a.tmps.size)(hi:i∈Region.ready .any ops zb){b:Bool}(hgs:∀ j b,o.guard=some (j,b)→qu sp j=none)(h:wantD ops (vals.take i) i o=some b):Region.wanted o (yielded ops a'.tmps)=b:=by
 unfold wantD at h;unfold Region.wanted;split at h
 ·next hg=>rw[hg];cases h;rfl
 ·next j b' hg=>
  rw[hg];simp only[];split at h
  ·next hj=>
   obtain⟨hw,hd⟩:=hj;obtain⟨t,ht⟩:=Option.isSome_iff_exists.1 hd;obtain⟨oj,hoj,hojd⟩:∃ oj,ops[j]? = some oj∧oj.dst=some t:=by
    cases hq:ops[j]? with
    | none=>rw[hq]at ht;cases ht
    | some oj=>rw[hq]at ht;exact⟨oj,rfl,ht⟩
   have hwr:=vk hB hoj t hojd;have hl:=zf hw hi;have ey:∀ s,(vals.take i)[j]? = some s→yielded ops a'.tmps j=(match upO β s with | .bool q=>some q | _=>none):=by
    intro s hs;rw[List.getElem?_take]at hs;split at hs
    ·next hlt=>
     have h3:a'.tmps[t]? = some (vs j):=by
      rw[hF.2.2 t (hdl t j hwr),hwr];simp only[if_pos hl]
     rw[D.rk j hl (hgs j b' hg),hs]at h3;unfold yielded;rw[ht];simp only[Option.bind_some];rw[h3];simp only[Option.join_some];cases upO β s<;>rfl
    ·cases hs
   split at h
   ·next q hq=>rw[ey _ hq];cases h;cases q<;>cases b'<;>rfl
   ·next hq=>rw[ey _ hq];cases h;cases b'<;>rfl
   ·cases h
  ·cases h
def gsB (ops:Array Oper) (sp:Spt):Bool:=ops.all fun o=>match o.guard with | some (j,_)=>(qu sp j).isNone | none=>true
theorem drawS{J:World→Prop}{F:Nat→Prop}{ds:List Deferred}{β:Nat→Nat}{c:Cf}{a:Act}{w:World}{Q:Exit→Act→World→Prop}(Y:Ty P fo io ze)(R:qm J F)(hT:∀ w,J w→T w){ks:List Ki}{fs us:List (Fa P T)}{vals:Vs}{e:List (Value×Value)}(V:Nat→Value→World→Prop)(hV:∀ i v w w',V i v w→Below w.heap.size w w'→V i v w')(hc:drQ c=some (ops,ks))(hg:goS P T fo io sp ops c.tm c.rows ops.toList 0 [] fs=some (vals,us,e))(he:∀ p∈e,p.1=p.2)(hb:kc ops=true)(hB:zbx ops=true)(hgs:gsB ops sp=true)(hds:dstB ops c.tm.length=true)(hids:va (tmS ops sp c.tm vals fun _=>undef) c.nx=true)(I:SI J F ds β c a w)(hsp:∀ i x o,qu sp i=some x→ops[i]? = some o→∀ zb vs a' w',Frm ops vs a zb a'→i∈Region.ready .any ops zb→Below w.heap.size w w'→(∀ q∈sp,zb.getD q.1 false=true→V q.1 (vs q.1) w')→(∀ x s,evS ops c.tm (vals.take i) i x=some s→a'.eval x=up β s) →
   wpG ops o P a' w' (fun a'' w''=>∃ v,a''=a'.put o.dst v∧(∀ u,x=some u→v=u)∧V i v w''∧Below w'.heap.size w' w'') (QK P Q ks))(k:∀ vs a' w',(∀ q∈sp,q.1<ops.size→V q.1 (vs q.1) w')→SI J F ds β { ops:=#[],rest:=[],ks:=ks,tm:=tmS ops sp c.tm vals vs,rows:=c.rows,nx:=c.nx,dn:=none } a' w'→At P Q { ops:=#[],rest:=[],ks:=ks,tm:=tmS ops sp c.tm vals vs,rows:=c.rows,nx:=c.nx,dn:=none } a' w'):At P Q c a w:=by
 obtain⟨hvl,_,hspec⟩:=goS_spec (k:=0) (v0:=[]) rfl hg he;have htm:a.tmps.size=c.tm.length:=by rw[I.fr];simp
 have dl:∀ t j,wr ops t=some j→t<a.tmps.size:=fun t j h=>by rw[htm];exact dstB_ok hds h
 have hsv:∀ j x,qu sp j=some x→j<ops.size→vals[j]? = some (x.map Sum.inl):=fun j x hx hj=>by
  have:=(hspec j ops[j] (by simp[hj])).1 x (by rw[Nat.zero_add];exact hx)
  rwa [Nat.zero_add]at this
 refine at_reg Y.hm hc ?_;refine zad hb hB (fun zb vs w'=>DS ops sp β vals V w zb vs w') ?_ ?_ ?_
 ·intro w1 h1;have hf:∀ j,¬ (Array.replicate ops.size false).getD j false=true:=fun j h=>by
   rw[Array.getD_eq_getD_getElem?,Array.getElem?_replicate]at h;split at h<;>simp at h
  refine⟨?_,fun j k _ h=>absurd h (hf k),fun j h=>absurd h (hf j),fun j x h=>absurd h (hf j)⟩;rcases h1 with rfl | rfl
  ·exact Below.refl _ _
  ·exact⟨rfl,rfl,rfl,Nat.le_refl _,fun _ _=>rfl⟩
 ·intro zb vs a' w' i o hs ho hi hF D;have hun:=ya hi hs;have hio:i<ops.size:=(Array.getElem?_eq_some_iff.1 ho).1;have hev:∀ x s,evS ops c.tm (vals.take i) i x=some s→a'.eval x=up β s:=fun x s h=>evF_ok D hsv hF I.fr hs hi h
  have wt':∀ j k,xa ops k j=true→(zb.setIfInBounds i true).getD k false=true→(zb.setIfInBounds i true).getD j false=true:=fun j k hw hk=>by
   rcases yx hk with rfl|hk
   ·exact zc (zf hw hi)
   ·exact zc (D.wt j k hw hk)
  cases hsi:qu sp i with
  | some x=>
   refine ky (fun a'' w'' h=>?_) (hsp i x o hsi ho zb vs a' w' hF hi D.bw (fun q hq hl=>by
    obtain⟨y,hy⟩:=mem_spec hq;exact(D.sv q.1 y hl hy).1) hev)
   obtain⟨v,rfl,h1,h2,h3⟩:=h;refine⟨v,rfl,D.bw.trans (h3.mono D.bw.size),wt',fun j hj hn=>?_,fun j y hj hy=>?_⟩
   ·have hji:j≠i:=fun e=>by rw[e,hsi]at hn;cases hn
    simp only[if_neg hji];exact D.rk j ((yx hj).resolve_left hji) hn
   ·by_cases hji:j=i
    ·subst hji;rw[hsi]at hy;cases hy;simp only[if_true];exact⟨h2,h1⟩
    ·simp only[if_neg hji];obtain⟨a1,a2⟩:=D.sv j y ((yx hj).resolve_left hji) hy;exact⟨hV j _ _ _ a1 h3,a2⟩
  | none=>
   obtain⟨f,s,e',hq,he',hvi⟩:=(hspec i o (by simpa using ho)).2 (by rw[Nat.zero_add];exact hsi);rw[Nat.zero_add]at hq hvi;have next:∀ v w2,v=upO β s→Below w'.heap.size w' w2→∃ v',a'.put o.dst v=a'.put o.dst v'∧DS ops sp β vals V w (zb.setIfInBounds i true) (fun j=>if j=i then v' else vs j) w2:=by
    intro v w2 hv hb2;refine⟨v,rfl,D.bw.trans (hb2.mono D.bw.size),wt',fun j hj hn=>?_,fun j y hj hy=>?_⟩
    ·by_cases hji:j=i
     ·subst hji;simp only[if_true];rw[hvi,hv];rfl
     ·simp only[if_neg hji];exact D.rk j ((yx hj).resolve_left hji) hn
    ·have hji:j≠i:=fun e=>by rw[e,hsi]at hy;cases hy
     simp only[if_neg hji];obtain⟨a1,a2⟩:=D.sv j y ((yx hj).resolve_left hji) hy;exact⟨hV j _ _ _ a1 hb2,a2⟩
   have hgo:∀ j b,o.guard=some (j,b)→qu sp j=none:=fun j b hg=>by
    unfold gsB at hgs;have:=Array.all_eq_true.1 hgs i hio;rw[Array.getElem?_eq_some_iff]at ho;obtain⟨_,ho⟩:=ho;rw[ho,hg]at this;simpa using this
   unfold qop at hq;split at hq
   ·next hw=>
    cases hq;have hnw:=wantS_ok D hsv hF hB dl hi hgo hw;unfold wpG;rw[hnw];simp only[Bool.false_eq_true,if_false];exact next undef w' rfl (Below.refl _ _)
   ·cases hq
   ·next hw=>
    have hnw:=wantS_ok D hsv hF hB dl hi hgo hw;unfold wpG;rw[hnw];simp only[if_true];have hJ':J w':=R.loc w w' I.hJ (zu.of_below D.bw);have hevL:∀{xs:List Operand} {us:List Value},(xs.mapM fun x=>plain (evS ops c.tm (vals.take i) i x))=some us→xs.map a'.eval=us:=by
     intro xs
     induction xs with
     | nil=>intro us h;simp at h;subst h;rfl
     | cons x xs ih=>
      intro us h;rw[List.mapM_cons]at h;cases h1:plain (evS ops c.tm (vals.take i) i x)with
      | none=>rw[h1]at h;simp at h
      | some v=>
       cases h2:(xs.mapM fun x=>plain (evS ops c.tm (vals.take i) i x))with
       | none=>rw[h1,h2]at h;simp at h
       | some us'=>
        rw[h1,h2]at h;simp at h;subst h;rw[List.map_cons,ih h2,hev _ _ (zx h1)];rfl
    split at hq
    ·simp only[Option.map_eq_some_iff,Prod.mk.injEq]at hq;obtain⟨sv,hn,rfl,rfl⟩:=hq;exact natG_ok Y hev (fun id r h=>(I.row _ (yl h)).below D.bw) hn fun w2 hb2=>next _ w2 rfl hb2
    ·next f=>
     split at hq
     ·next g xs ts hop=>
      split at hq
      ·next hfg=>
       subst hfg;simp only[Option.map_eq_some_iff,Prod.mk.injEq]at hq;obtain⟨us',hm2,rfl,rfl⟩:=hq;have h1:=hevL hm2;have h2:=he' _ (List.mem_singleton.2 rfl);simp only[Value.tuple.injEq]at h2;refine Oper.wp_mono ?_ (zd5 f.f xs ts hop (vs:=f.args) ?_ (f.hr xs ts) (f.hc w' (hT w' hJ')))
       ·rintro a2 w2 ⟨rfl,hb2⟩;exact next _ w2 rfl hb2
       ·rw[← h2,← h1];apply Array.ext';simp
      ·cases hq
     ·cases hq
    ·next f=>
     split at hq
     ·next hok=>
      simp only[Option.map_eq_some_iff,Prod.mk.injEq]at hq;obtain⟨us',hm2,rfl,rfl⟩:=hq;have h1:=hevL hm2;have h2:=he' _ (List.mem_singleton.2 rfl);simp only[Value.tuple.injEq]at h2;exact vd (f.h a' w' o (.inr (hT w' hJ')) hok (by rw[h1,h2])) (next _ w' rfl (Below.refl _ _))
     ·cases hq
 ·intro zb vs a' w' hd hF D;have hfr:a'.tmps=((tmS ops sp c.tm vals vs).map (upO β)).toArray:=by
   apply Array.ext_getElem?;intro t;by_cases ht:t<a.tmps.size
   ·have ht':t<c.tm.length:=by omega
    rw[hF.2.2 t ht];have e0:a.tmps[t]? = some (upO β (c.tm[t]?).join):=by
     rw[I.fr];simp[List.getElem?_eq_getElem ht']
    simp only[List.getElem?_toArray,tmS,List.getElem?_map,List.getElem?_range ht',Option.map_some];cases hw:wr ops t with
    | none=>exact e0
    | some j=>
     have hj:=(wr_dst hw).2;simp only[];rw[if_pos (hd j hj)];cases hs:qu sp j with
     | none=>simp only[];rw[D.rk j (hd j hj) hs]
     | some x=>rfl
   ·rw[Array.getElem?_eq_none (by have:=hF.2.1;omega),Array.getElem?_eq_none (by simp[tmS];omega)]
  have:=(k vs a' w' (fun q hq hl=>by
   obtain⟨y,hy⟩:=mem_spec hq;exact(D.sv q.1 y (hd q.1 hl) hy).1) ⟨hfr,hF.1.trans I.df,R.loc w w' I.hJ (zu.of_below D.bw),fun p hp=>(I.row p hp).below D.bw,I.dis,I.lt,I.inj,ids_tmS hids⟩).out
  exact this
end
section
variable {P:Program} {J:World→Prop} {F:Nat→Prop} {ds:List Deferred} {β:Nat→Nat} {c:Cf} {a:Act} {w:World} {Q:Exit→Act→World→Prop}
abbrev vj (c:Cf):Array Oper:=((drQ c).map (·.1)).getD #[]
abbrev ksD (c:Cf):List Ki:=((drQ c).map (·.2)).getD []
def dsX (P:Program) {T:World→Prop} (sp:Spt) (fs:List (Fa P T)) (c:Cf):Option (Vs×List (Value×Value)):=
 match drQ c with
 | some (ops,ks)=>match goS P T (foV P) (ioV P) sp ops c.tm c.rows ops.toList 0 [] fs with
  | some (vals,us,e)=>if(kc ops&&zbx ops&&gsB ops sp&&dstB ops c.tm.length&&va (tmS ops sp c.tm vals fun _=>undef) c.nx)=true then some (vals,e)else none
  | none=>none
 | none=>none
abbrev valsD (P:Program) {T:World→Prop} (sp:Spt) (fs:List (Fa P T)) (c:Cf):Vs:=((dsX P sp fs c).map (·.1)).getD []
abbrev dsC (P:Program) {T:World→Prop} (sp:Spt) (fs:List (Fa P T)) (c:Cf) (vs:Nat→Value):Cf:={ ops:=#[],rest:=[],ks:=ksD c,tm:=tmS (vj c) sp c.tm (valsD P sp fs c) vs,rows:=c.rows,nx:=c.nx,dn:=none }
theorem dwS{T:World→Prop}(sp:Spt)(fs:List (Fa P T))(V:Nat→Value→World→Prop)(hV:∀ i v w w',V i v w→Below w.heap.size w w'→V i v w')(R:qm J F)(hT:∀ w,J w→T w)(I:SI J F ds β c a w)(hsp:∀ p∈sp,∀ o,(vj c)[p.1]? = some o→∀ zb vs a' w',Frm (vj c) vs a zb a'→p.1∈Region.ready .any (vj c) zb→Below w.heap.size w w'→(∀ q∈sp,zb.getD q.1 false=true→V q.1 (vs q.1) w')→(∀ x s,evS (vj c) c.tm ((valsD P sp fs c).take p.1) p.1 x=some s→a'.eval x=up β s) →
   wpG (vj c) o P a' w' (fun a'' w''=>∃ v,a''=a'.put o.dst v∧(∀ u,p.2=some u→v=u)∧V p.1 v w''∧Below w'.heap.size w' w'') (QK P Q (ksD c)))(k:∀ vs a' w',(∀ q∈sp,q.1<(vj c).size→V q.1 (vs q.1) w')→SI J F ds β (dsC P sp fs c vs) a' w'→At P Q (dsC P sp fs c vs) a' w')(hm:P.follows .mixedOrders=true:=by kernel_rfl)(hs:(dsX P sp fs c).isSome=true:=by kernel_rfl)(he:(dsX P sp fs c).map (fun r=>r.2.map (·.1))=(dsX P sp fs c).map (fun r=>r.2.map (·.2)):=by kernel_rfl):At P Q c a w:=by
 cases hx:dsX P sp fs c with
 | none=>rw[hx]at hs;cases hs
 | some r=>
  unfold valsD at hsp;unfold dsC valsD at k;rw[hx]at he k hsp;unfold dsX at hx;unfold vj ksD at hsp k;split at hx
  ·next ops ks hc=>
   rw[hc]at hsp k;split at hx
   ·next vals us e hg=>
    split at hx
    ·next hb=>
     cases hx;simp only[Option.map_some,Option.some.injEq,Option.getD_some]at he k hsp;simp only[Bool.and_eq_true]at hb;exact drawS (ty_ok hm) R hT V hV hc hg (eqs_of he) hb.1.1.1.1 hb.1.1.1.2 hb.1.1.2 hb.1.2 hb.2 I (fun i x o hx ho=>hsp (i,x) (spec_mem hx) o ho) k
    ·cases hx
   ·cases hx
  ·cases hx
end
section
variable {P:Program} {ops:Array Oper} {Q:Exit→Act→World→Prop} {K:Act→World→Prop} {o:Oper} {a:Act} {w:World}
theorem bslG{t:TypeId}{n:Nat}{ps:Array (Nat×Operand)}{v:Value}{w':World}(hop:o.op=.buildSlice t n ps)(hg:o.guard=none)(h:(Instr.buildSlice t n (ps.map fun(i,x)=>(i,a.eval x))).run P w=.ok v w')(hK:K (a.put o.dst v) w'):wpG ops o P a w K Q:=by
 refine zi hg (vd (v:=v) (w':=w') ?_ hK);unfold execOp;simp only[hop,Sem.run_bind,h,Result.andThen_ok,Sem.run_pure]
end
theorem zao{c:Cf}{i:Nat}{o:Oper}{x:Op}{d:Option Tmp}(ho:(vj c)[i]? = some o)(h:((vj c)[i]?).map (fun o=>(o.op,o.dst,o.guard))=some (x,d,none)):o.op=x∧o.dst=d∧o.guard=none:=by
 rw[ho]at h;simp only[Option.map_some,Option.some.injEq,Prod.mk.injEq]at h;exact h
theorem grow_mono{F G:Nat→Prop}{w w':World}(h:zu F w w')(k:∀ i,G i→F i):zu G w w':=⟨h.os,h.tape,h.output,h.size,fun i hi hG=>h.block i hi (k i hG)⟩
section
variable {P:Program} {J:World→Prop} {F:Nat→Prop} {ds:List Deferred} {β:Nat→Nat} {c:Cf} {a:Act} {w:World} {Q:Exit→Act→World→Prop}
def d22 (c:Cf) (d1 d2 ix iy:Nat) (ra rb:Array Value):Cf:={ ops:=#[],rest:=[],ks:=ksD c,tm:=putQ (putQ c.tm (some d1) (some (Sum.inl (.agg ra)))) (some d2) (some (Sum.inl (.agg rb))),rows:=(c.rows.map fun p=>if p.1=ix then(p.1,ra)else p).map fun p=>if p.1=iy then(p.1,rb)else p,nx:=c.nx,dn:=none }
theorem dw22(t p q x y d1 d2 ip iq ix iy:Nat)(ra rb r2 r3:Array Value){d:TypeDesc}(hu:P.underlying t=some d)(hd:aggB d=true)(hi:(P.info? t).map (·.size)=some ra.size)(hz:ra.size=rb.size∧r2.size=ra.size∧r3.size=rb.size)(o1:ra.all (·.oneCell')=true)(o2:rb.all (·.oneCell')=true)(R:qm J F)(I:SI J F ds β c a w)(k:∀ a' w',SI J F ds β (d22 c d1 d2 ix iy ra rb) a' w'→At P Q (d22 c d1 d2 ix iy ra rb) a' w')(hm:P.follows .mixedOrders=true:=by kernel_rfl)(hc:(drQ c).isSome=true:=by kernel_rfl)(h0:((vj c)[0]?).map (fun o=>(o.op,o.dst,o.guard))=some (.load t (.tmp p),some d1,none):=by kernel_rfl)(h1:((vj c)[1]?).map (fun o=>(o.op,o.dst,o.guard))=some (.load t (.tmp q),some d2,none):=by kernel_rfl)(h2:((vj c)[2]?).map (fun o=>(o.op,o.dst,o.guard))=some (.store t (.tmp x) (.tmp d1),none,none):=by kernel_rfl)(h3:((vj c)[3]?).map (fun o=>(o.op,o.dst,o.guard))=some (.store t (.tmp y) (.tmp d2),none,none):=by kernel_rfl)(hw:(kc (vj c)&&zbx (vj c)&&xa (vj c) 2 0&&xa (vj c) 3 1&&(wr (vj c) p).isNone&&(wr (vj c) q).isNone&&(wr (vj c) x).isNone&&(wr (vj c) y).isNone)=true:=by kernel_rfl)(hn:decide ((vj c).size=4∧d1<c.tm.length∧d2<c.tm.length∧d1≠d2∧ip≠ix∧ip≠iy∧iq≠ix∧iq≠iy∧ix≠iy)=true:=by kernel_rfl)(tp:(c.tm[p]?).join=some (Sum.inr (ip,0)):=by kernel_rfl)(tq:(c.tm[q]?).join=some (Sum.inr (iq,0)):=by kernel_rfl)(tx:(c.tm[x]?).join=some (Sum.inr (ix,0)):=by kernel_rfl)(ty:(c.tm[y]?).join=some (Sum.inr (iy,0)):=by kernel_rfl)(rp:xr c.rows ip=some ra:=by kernel_rfl)(rq:xr c.rows iq=some rb:=by kernel_rfl)(rx:xr c.rows ix=some r2:=by kernel_rfl)(ry:xr c.rows iy=some r3:=by kernel_rfl):At P Q c a w:=by
 obtain⟨⟨ops,ks⟩,hc⟩:=Option.isSome_iff_exists.1 hc;have eo:vj c=ops:=by unfold vj;rw[hc];rfl
 have ek:ksD c=ks:=by unfold ksD;rw[hc];rfl
 rw[eo]at h0 h1 h2 h3 hw hn;obtain⟨hz4,hd1,hd2,hd12,n1,n2,n3,n4,n5⟩:=of_decide_eq_true hn;simp only[Bool.and_eq_true,Option.isNone_iff_eq_none]at hw;obtain⟨⟨⟨⟨⟨⟨⟨hb,hB⟩,hw20⟩,hw31⟩,wp⟩,wq⟩,wx⟩,wy⟩:=hw;have get:∀{i:Nat} {z:Op×Option Tmp×Option (Nat×Bool)},(ops[i]?).map (fun o=>(o.op,o.dst,o.guard))=some z→∃ o,ops[i]? = some o∧o.op=z.1∧o.dst=z.2.1∧o.guard=z.2.2:=fun{i z} h=>by
  cases ho:ops[i]? with
  | none=>rw[ho]at h;cases h
  | some o=>rw[ho]at h;simp only[Option.map_some,Option.some.injEq]at h;subst h;exact⟨o,rfl,rfl,rfl,rfl⟩
 obtain⟨a0,g0,p0,q0,u0⟩:=get h0;obtain⟨a1,g1,p1,q1,u1⟩:=get h1;obtain⟨a2,g2,p2,q2,u2⟩:=get h2;obtain⟨a3,g3,p3,q3,u3⟩:=get h3;simp only[]at p0 q0 u0 p1 q1 u1 p2 q2 u2 p3 q3 u3;have w0:=vk hB g0 d1 q0;have w1:=vk hB g1 d2 q1;have htm:a.tmps.size=c.tm.length:=by rw[I.fr];simp
 have mp:=yl rp;have mq:=yl rq;have mx:=yl rx;have my:=yl ry;have bpx:=I.inj _ mp _ mx n1;have bpy:=I.inj _ mp _ my n2;have bqx:=I.inj _ mq _ mx n3;have bqy:=I.inj _ mq _ my n4;have bxy:=I.inj _ mx _ my n5;have keep:∀{g:Nat} {r:Array Value} {w':World},za w g r→g≠β ix∧g≠β iy→zu (fun k=>k≠β ix∧k≠β iy) w w'→za w' g r:=fun{g r w'} h hg G=>by
  have hlt:=h.lt;obtain⟨t',h⟩:=h;exact⟨t',(G.block g hlt hg).trans h⟩
 have ov:∀{r s:Array Value},r.size=s.size→over r 0 s=s:=fun{r s} h=>by
  unfold over;rw[List.take_zero,List.nil_append,List.drop_eq_nil_of_le (by simp;omega),List.append_nil]
 refine at_reg hm hc ?_;refine zad hb hB (fun zb vs w'=>(zb.getD 0 false=true→vs 0=.agg ra)∧(zb.getD 1 false=true→vs 1=.agg rb)∧za w' (β ix) (if zb.getD 2 false=true then ra else r2)∧za w' (β iy) (if zb.getD 3 false=true then rb else r3)∧zu (fun k=>k≠β ix∧k≠β iy) w w') ?_ ?_ ?_
 ·intro w1 h1;have hf:∀ j,¬ (Array.replicate ops.size false).getD j false=true:=fun j h=>by
   rw[Array.getD_eq_getD_getElem?,Array.getElem?_replicate]at h;split at h<;>simp at h
  refine⟨fun h=>absurd h (hf 0),fun h=>absurd h (hf 1),?_,?_,?_⟩
  ·rw[if_neg (hf 2)];rcases h1 with rfl|rfl<;>exact I.row _ mx
  ·rw[if_neg (hf 3)];rcases h1 with rfl|rfl<;>exact I.row _ my
  ·rcases h1 with rfl | rfl<;>exact⟨rfl,rfl,rfl,Nat.le_refl _,fun _ _ _=>rfl⟩
 ·rintro zb vs a' w' i o hs ho hi' hF ⟨c0,c1,c2,c3,G⟩;have hun:=ya hi' hs;have hlt:i<4:=by have:=(Array.getElem?_eq_some_iff.1 ho).1;omega
  have hself:(zb.setIfInBounds i true).getD i false=true:=by
   rw[Array.getD_eq_getD_getElem?,Array.getElem?_setIfInBounds_self_of_lt (by omega)];rfl
  have hoth:∀ j,i≠j→(zb.setIfInBounds i true).getD j false=zb.getD j false:=fun j hj=>getD_set_ne false hj
  have hcs:i=0∨i=1∨i=2∨i=3:=by omega
  rcases hcs with rfl|rfl|rfl|rfl
  ·rw[g0]at ho;cases ho;refine zi u0 (Oper.wp_mono ?_ (ob_loada (cs:=ra) t (.tmp p) p0 (by rw[hF.old wp,zaq I.fr tp];rfl) (keep (I.row _ mp) ⟨bpx,bpy⟩ G) hu hd hi (by simp)));rintro a2 w2 ⟨rfl,hb2⟩;refine⟨_,rfl,fun _=>by simp,fun h=>?_,?_,?_,G.trans (zu.of_below hb2)⟩
   ·rw[hoth 1 (by decide)]at h;simp only[if_neg (by decide:¬ (1:Nat)=0)];exact c1 h
   ·rw[hoth 2 (by decide)];exact c2.below hb2
   ·rw[hoth 3 (by decide)];exact c3.below hb2
  ·rw[g1]at ho;cases ho;refine zi u1 (Oper.wp_mono ?_ (ob_loada (cs:=rb) t (.tmp q) p1 (by rw[hF.old wq,zaq I.fr tq];rfl) (keep (I.row _ mq) ⟨bqx,bqy⟩ G) hu hd (hi.trans (by rw[hz.1])) (by simp)));rintro a2 w2 ⟨rfl,hb2⟩;refine⟨_,rfl,fun h=>?_,fun _=>by simp,?_,?_,G.trans (zu.of_below hb2)⟩
   ·rw[hoth 0 (by decide)]at h;simp only[if_neg (by decide:¬ (0:Nat)=1)];exact c0 h
   ·rw[hoth 2 (by decide)];exact c2.below hb2
   ·rw[hoth 3 (by decide)];exact c3.below hb2
  ·rw[g2]at ho;cases ho;have hl0:=zf hw20 hi';rw[if_neg hun]at c2;refine zi u2 (Oper.wp_mono ?_ (zbq t (.tmp x) (.tmp d1) p2 (by rw[hF.old wx,zaq I.fr tx];rfl) ((hF.new w0 (by omega) hl0).trans (c0 hl0)) (cs:=ra) rfl c2 hi (by omega) o1 (ov hz.2.1)));rintro a2 w2 ⟨rfl,rfl⟩;refine⟨_,rfl,fun h=>?_,fun h=>?_,?_,?_,G.trans (vi _ _ _ (fun h=>h.1 rfl))⟩
   ·rw[hoth 0 (by decide)]at h;simp only[if_neg (by decide:¬ (0:Nat)=2)];exact c0 h
   ·rw[hoth 1 (by decide)]at h;simp only[if_neg (by decide:¬ (1:Nat)=2)];exact c1 h
   ·rw[if_pos hself];exact c2.set_same _
   ·rw[hoth 3 (by decide)];exact c3.set_other _ bxy
  ·rw[g3]at ho;cases ho;have hl1:=zf hw31 hi';rw[if_neg hun]at c3;refine zi u3 (Oper.wp_mono ?_ (zbq t (.tmp y) (.tmp d2) p3 (by rw[hF.old wy,zaq I.fr ty];rfl) ((hF.new w1 (by omega) hl1).trans (c1 hl1)) (cs:=rb) rfl c3 (hi.trans (by rw[hz.1])) (by omega) o2 (ov hz.2.2)));rintro a2 w2 ⟨rfl,rfl⟩;refine⟨_,rfl,fun h=>?_,fun h=>?_,?_,?_,G.trans (vi _ _ _ (fun h=>h.2 rfl))⟩
   ·rw[hoth 0 (by decide)]at h;simp only[if_neg (by decide:¬ (0:Nat)=3)];exact c0 h
   ·rw[hoth 1 (by decide)]at h;simp only[if_neg (by decide:¬ (1:Nat)=3)];exact c1 h
   ·rw[hoth 2 (by decide)];exact c2.set_other _ (Ne.symm bxy)
   ·rw[if_pos hself];exact c3.set_same _
 ·rintro zb vs a' w' hdn hF ⟨c0,c1,c2,c3,G⟩;rw[if_pos (hdn 2 (by omega))]at c2;rw[if_pos (hdn 3 (by omega))]at c3;have e0:=c0 (hdn 0 (by omega));have e1:=c1 (hdn 1 (by omega));have ea:a'.tmps=((a.put (some d1) (.agg ra)).put (some d2) (.agg rb)).tmps:=by
   apply Array.ext_getElem?;intro j;show a'.tmps[j]? = ((a.tmps.setIfInBounds d1 (.agg ra)).setIfInBounds d2 (.agg rb))[j]?;by_cases hj:j<a.tmps.size
   ·rw[hF.2.2 j hj];by_cases h2:d2=j
    ·subst h2;rw[w1,Array.getElem?_setIfInBounds_self_of_lt (by simpa using hj)];simp only[if_pos (hdn 1 (by omega)),e1]
    ·rw[Array.getElem?_setIfInBounds_ne h2];by_cases h1:d1=j
     ·subst h1;rw[w0,Array.getElem?_setIfInBounds_self_of_lt hj];simp only[if_pos (hdn 0 (by omega)),e0]
     ·rw[Array.getElem?_setIfInBounds_ne h1];cases hq:wr ops j with
      | none=>rfl
      | some n=>
       exfalso;obtain⟨hq1,hq2⟩:=wr_dst hq;have hcs:n=0∨n=1∨n=2∨n=3:=by omega
       rcases hcs with rfl|rfl|rfl|rfl
       ·rw[g0,Option.bind_some,q0]at hq1;cases hq1;exact h1 rfl
       ·rw[g1,Option.bind_some,q1]at hq1;cases hq1;exact h2 rfl
       ·rw[g2,Option.bind_some,q2]at hq1;cases hq1
       ·rw[g3,Option.bind_some,q3]at hq1;cases hq1
   ·rw[Array.getElem?_eq_none (by have:=hF.2.1;omega),Array.getElem?_eq_none (by simp;omega)]
  have I':SI J F ds β (d22 c d1 d2 ix iy ra rb) a' w':=by
   refine⟨ea.trans (zbj (zbj I.fr (some d1) (some (Sum.inl (.agg ra)))) (some d2) (some (Sum.inl (.agg rb)))),hF.1.trans I.df,R.loc w w' I.hJ (grow_mono G fun k hk=>⟨fun e=>I.dis _ mx (e ▸ hk),fun e=>I.dis _ my (e ▸ hk)⟩),?_,?_,?_,?_,km (km I.ids (some d1) (by intro i o h;cases h)) (some d2) (by intro i o h;cases h)⟩
   ·intro p1 hp1;obtain⟨p2,hp2,e1',⟨h1',h2'⟩|⟨h1',rfl⟩⟩:=yy iy rb p1 hp1
    ·rw[h1',h2'];exact c3
    ·obtain⟨p3,hp3,e2',⟨h3',h4'⟩|⟨h3',rfl⟩⟩:=yy ix ra p1 hp2
     ·rw[h3',h4'];exact c2
     ·exact keep (I.row _ hp3) ⟨I.inj _ hp3 _ mx h3',I.inj _ hp3 _ my h1'⟩ G
   ·intro p1 hp1;obtain⟨p2,hp2,e1',_⟩:=yy iy rb p1 hp1;obtain⟨p3,hp3,e2',_⟩:=yy ix ra p2 hp2;rw[← e1',← e2'];exact I.dis _ hp3
   ·intro p1 hp1;obtain⟨p2,hp2,e1',_⟩:=yy iy rb p1 hp1;obtain⟨p3,hp3,e2',_⟩:=yy ix ra p2 hp2;rw[← e1',← e2'];exact I.lt _ hp3
   ·intro p1 hp1 q1 hq1 hne;obtain⟨p2,hp2,e1',_⟩:=yy iy rb p1 hp1;obtain⟨p3,hp3,e2',_⟩:=yy ix ra p2 hp2;obtain⟨q2,hq2,f1',_⟩:=yy iy rb q1 hq1;obtain⟨q3,hq3,f2',_⟩:=yy ix ra q2 hq2;rw[← e1',← e2',← f1',← f2']at hne ⊢;exact I.inj _ hp3 _ hq3 hne
  have:=(k a' w' I').out;unfold d22 at this;rw[ek]at this;exact this
end
section
variable {P:Program} {T:World→Prop} {fo:Nat→Nat→Option Nat} {io:Nat→Int→Option Nat} {ze:Nat→Option (Array Value)} {ops:Array Oper} {tm:Vs} {rows:Rows} {sp:Spt}
abbrev spM (ops:Array Oper) (m:Nat) (sp:Spt):Spt:=sp++(List.range (ops.size-m)).map fun i=>(m+i,none)
def tmM (ops:Array Oper) (m:Nat) (sp:Spt) (tm vals:Vs) (vs:Nat→Value):Vs:=(List.range tm.length).map fun t=>match wr ops t with
 | some j=>if m≤j then(tm[t]?).join else(match qu sp j with
  | some _=>some (Sum.inl (vs j))
  | none=>(vals[j]?).join)
 | none=>(tm[t]?).join
theorem ids_tmM{m:Nat}{vals:Vs}{vs:Nat→Value}{nx:Nat}(h:va (tmM ops m sp tm vals fun _=>undef) nx=true):va (tmM ops m sp tm vals vs) nx=true:=by
 unfold va tmM at h ⊢;rw[List.all_map,List.all_eq_true]at h ⊢;intro t ht;have:=h t ht;simp only[Function.comp]at this ⊢;cases hw:wr ops t with
 | none=>rw[hw]at this;exact this
 | some j=>
  rw[hw]at this;simp only at this ⊢;by_cases hj:m≤j
  ·rw[if_pos hj]at this ⊢;exact this
  ·rw[if_neg hj]at this ⊢;cases hs:qu sp j with
   | none=>rw[hs]at this;exact this
   | some x=>rfl
theorem put_anyN{o:Oper}{a:Act}{w:World}(hnd:∀ d w',(execOp a.eval o).run P w≠.ok (.defer d) w'){K:Act→World→Prop}{Q:Exit→Act→World→Prop}(hh:o.wp P a w K Q):o.wp P a w (fun a'' w''=>(∃ v,a''=a.put o.dst v)∧K a'' w'') Q:=by
 unfold Oper.wp at *;generalize (execOp a.eval o).run P w=r at *;cases r with
 | ok n w'=>
  cases n<;>simp only[Oper.upon]at hh ⊢ <;>
   first
    | exact⟨⟨_,rfl⟩,hh⟩
    | exact Calls.mono hh (fun e w'' he=>by cases e<;>first | exact⟨⟨_,rfl⟩,he⟩ | exact he)
    | exact Rows.mono hh (fun _ _ he=>⟨⟨_,rfl⟩,he⟩)
    | exact absurd rfl (hnd _ _)
 | halt x w'=>cases x<;>simp only[Oper.upon]at hh ⊢ <;> exact hh
structure NoD (P:Program) (o:Oper):Prop where
 nd:∀(a:Act) (w:World) d w',(execOp a.eval o).run P w≠.ok (.defer d) w'
def tailX (ops:Array Oper) (m:Nat):Bool:=decide (m<ops.size)&&((List.range m).all fun j=>ancB ops ops.size m j)&&(List.range ops.size).all fun n=>decide (n<m)||(match ops[n]? with
 | some o=>o.guard.isNone&&(n == m||xa ops n (n-1))
 | none=>false)
theorem drawN(m:Nat){J:World→Prop}{F:Nat→Prop}{ds:List Deferred}{β:Nat→Nat}{c:Cf}{a:Act}{w:World}{Q:Exit→Act→World→Prop}(Y:Ty P fo io ze)(R:qm J F)(hT:∀ w,J w→T w){ks:List Ki}{fs us:List (Fa P T)}{vals:Vs}{e:List (Value×Value)}(V:Nat→Value→World→Prop)(hV:∀ i v w w',V i v w→Below w.heap.size w w'→V i v w')(hc:drQ c=some (ops,ks))(hg:goS P T fo io (spM ops m sp) ops c.tm c.rows ops.toList 0 [] fs=some (vals,us,e))(he:∀ p∈e,p.1=p.2)(hb:kc ops=true)(hB:zbx ops=true)(hgs:gsB ops (spM ops m sp)=true)(hds:dstB ops c.tm.length=true)(hids:va (tmM ops m sp c.tm vals fun _=>undef) c.nx=true)(hla:tailX ops m=true)(hnd:∀(n:Nat) (o:Oper),m≤n→ops[n]? = some o→NoD P o)(hsn:(sp.all fun p=>decide (p.1<m))=true)(I:SI J F ds β c a w)(hsp:∀ i x o,qu sp i=some x→ops[i]? = some o→∀ zb vs a' w',Frm ops vs a zb a'→i∈Region.ready .any ops zb→Below w.heap.size w w'→(∀ q∈sp,zb.getD q.1 false=true→V q.1 (vs q.1) w')→(∀ x s,evS ops c.tm (vals.take i) i x=some s→a'.eval x=up β s) →
   wpG ops o P a' w' (fun a'' w''=>∃ v,a''=a'.put o.dst v∧(∀ u,x=some u→v=u)∧V i v w''∧Below w'.heap.size w' w'') (QK P Q ks))(k:∀ vs a' w',(∀ q∈sp,q.1<ops.size→V q.1 (vs q.1) w')→SI J F ds β { ops:=ops,rest:=ops.toList.drop m,ks:=ks,tm:=tmM ops m sp c.tm vals vs,rows:=c.rows,nx:=c.nx,dn:=none } a' w'→At P Q { ops:=ops,rest:=ops.toList.drop m,ks:=ks,tm:=tmM ops m sp c.tm vals vs,rows:=c.rows,nx:=c.nx,dn:=none } a' w'):At P Q c a w:=by
 obtain⟨hvl,_,hspec⟩:=goS_spec (k:=0) (v0:=[]) rfl hg he;have htm:a.tmps.size=c.tm.length:=by rw[I.fr];simp
 have dl:∀ t j,wr ops t=some j→t<a.tmps.size:=fun t j h=>by rw[htm];exact dstB_ok hds h
 have hsv:∀ j x,qu (spM ops m sp) j=some x→j<ops.size→vals[j]? = some (x.map Sum.inl):=fun j x hx hj=>by
  have:=(hspec j ops[j] (by simp[hj])).1 x (by rw[Nat.zero_add];exact hx)
  rwa [Nat.zero_add]at this
 unfold tailX at hla;simp only[Bool.and_eq_true,List.all_eq_true,List.mem_range,decide_eq_true_eq]at hla;obtain⟨⟨hmo,hanc⟩,hla2⟩:=hla;have htl:∀ n o,m≤n→ops[n]? = some o→o.guard=none∧(n=m∨xa ops n (n-1)=true):=fun n o hn ho=>by
  have h1:=hla2 n (Array.getElem?_eq_some_iff.1 ho).1;rw[ho,decide_eq_false (by omega)]at h1;simp only[Bool.false_or,Bool.and_eq_true,Option.isNone_iff_eq_none,Bool.or_eq_true,beq_iff_eq]at h1;exact⟨h1.1,h1.2⟩
 have spn:∀ i x,qu sp i=some x→qu (spM ops m sp) i=some x:=fun i x h=>by
  unfold qu at h ⊢;rw[List.find?_append];rw[Option.map_eq_some_iff]at h;obtain⟨p,h1,h2⟩:=h;rw[h1];exact congrArg some h2
 have spi:∀ i x,i<m→qu (spM ops m sp) i=some x→qu sp i=some x:=fun i x hi h=>by
  unfold qu at h ⊢;rw[List.find?_append]at h;cases hq:sp.find? fun p=>p.1 == i with
  | some p=>rw[hq]at h;exact h
  | none=>
   rw[hq]at h;simp only[Option.none_or,Option.map_eq_some_iff]at h;obtain⟨p,h1,h2⟩:=h;have h3:=List.find?_some h1;have h4:=List.mem_of_find?_eq_some h1;obtain⟨q,hq1,rfl⟩:=List.mem_map.1 h4;simp only[beq_iff_eq]at h3;omega
 have spl:∀ i x,qu sp i=some x→i<m:=fun i x h=>by
  have:=List.all_eq_true.1 hsn _ (spec_mem h);simpa using this
 let V':Nat→Value→World→Prop:=fun i v w=>m≤i∨V i v w
 have hV':∀ i v w w',V' i v w→Below w.heap.size w w'→V' i v w':=fun i v w w' h hb=>h.imp id fun h=>hV i v w w' h hb
 have hfr:∀ zb vs a' w',(∀ j,j<m→zb.getD j false=true)→(∀ j,m≤j→zb.getD j false=false)→Frm ops vs a zb a'→DS ops (spM ops m sp) β vals V' w zb vs w'→a'.tmps=((tmM ops m sp c.tm vals vs).map (upO β)).toArray:=by
  intro zb vs a' w' hd hno hF D;apply Array.ext_getElem?;intro t;by_cases ht:t<a.tmps.size
  ·have ht':t<c.tm.length:=by omega
   rw[hF.2.2 t ht];have e0:a.tmps[t]? = some (upO β (c.tm[t]?).join):=by
    rw[I.fr];simp[List.getElem?_eq_getElem ht']
   simp only[List.getElem?_toArray,tmM,List.getElem?_map,List.getElem?_range ht',Option.map_some];cases hw:wr ops t with
   | none=>exact e0
   | some j=>
    simp only[];by_cases hj:m≤j
    ·rw[if_neg (by rw[hno j hj];decide),if_pos hj];exact e0
    ·have hj2:j<m:=by omega
     rw[if_pos (hd j hj2),if_neg hj];cases hs:qu sp j with
     | none=>
      have hs2:qu (spM ops m sp) j=none:=by
       cases hq:qu (spM ops m sp) j with
       | none=>rfl
       | some x=>rw[spi j x hj2 hq]at hs;cases hs
      simp only[];rw[D.rk j (hd j hj2) hs2]
     | some x=>rfl
  ·rw[Array.getElem?_eq_none (by have:=hF.2.1;omega),Array.getElem?_eq_none (by simp[tmM];omega)]
 have tstep:∀(n:Nat) (zb:Array Bool) (vs:Nat→Value) (a':Act) (w':World) (o:Oper),m≤n→zb.size=ops.size→ops[n]? = some o→¬ zb.getD n false=true→(∀ j,j<n→zb.getD j false=true)→(∀ j,n≤j→zb.getD j false=false)→Frm ops vs a zb a'→wpL P ops (QK P Q ks) (ops.toList.drop n) a' w' →
   wpG ops o P a' w' (fun a'' w''=>∃ v,a''=a'.put o.dst v∧((∀ j,m≤j→(zb.setIfInBounds n true).getD j false=false)∧DS ops (spM ops m sp) β vals V' w (zb.setIfInBounds n true) (fun j=>if j=n then v else vs j) w''∨∃ n',m<n'∧n'≤ops.size∧(∀ j,j<n'→(zb.setIfInBounds n true).getD j false=true)∧(∀ j,n'≤j→(zb.setIfInBounds n true).getD j false=false)∧∀ a3,Frm ops (fun j=>if j=n then v else vs j) a (zb.setIfInBounds n true) a3→wpL P ops (QK P Q ks) (ops.toList.drop n') a3 w'')) (QK P Q ks):=by
  intro n zb vs a' w' o hmn hs ho hun hall hno hF hwp;obtain⟨h1,h3⟩:=htl n o hmn ho;have hnl:n<ops.size:=(Array.getElem?_eq_some_iff.1 ho).1;have hdrop:ops.toList.drop n=o::ops.toList.drop (n+1):=nat_drop (by simpa using ho);rw[hdrop]at hwp;have hwn:Region.wanted o (yielded ops a'.tmps)=true:=by unfold Region.wanted;rw[h1]
  unfold wpG;rw[if_pos hwn];unfold wpL at hwp;rw[if_pos hwn]at hwp;refine Oper.wp_mono ?_ (put_anyN ((hnd n o hmn ho).nd a' w') hwp);rintro a2 w2 ⟨⟨v,rfl⟩,h4⟩;have hset:∀ j,(zb.setIfInBounds n true).getD j false=true↔(j=n∨zb.getD j false=true):=fun j=>by
   constructor
   ·intro h;exact yx h
   ·rintro(rfl|h)
    ·rw[Array.getD_eq_getD_getElem?,Array.getElem?_setIfInBounds,if_pos rfl,if_pos (by omega)];rfl
    ·exact zc h
  refine⟨v,rfl,.inr ⟨n+1,by omega,by omega,fun j hj=>(hset j).2 ?_,fun j hj=>?_,fun a3 hF3=>?_⟩⟩
  ·rcases Nat.lt_or_ge j n with h|h
   ·exact .inr (hall j h)
   ·exact .inl (by omega)
  ·have:¬ (zb.setIfInBounds n true).getD j false=true:=fun h=>by
    rcases(hset j).1 h with h|h
    ·omega
    ·rw[hno j (by omega)]at h;cases h
   simpa using this
  ·have hst:=hF.step hs ho (vk hB ho) hun v;have e:a3=a'.put o.dst v:=by
    have q:∀(x y:Act),Frm ops (fun j=>if j=n then v else vs j) a (zb.setIfInBounds n true) x→Frm ops (fun j=>if j=n then v else vs j) a (zb.setIfInBounds n true) y→x=y:=by
     intro x y hx hy;have ht:x.tmps=y.tmps:=by
      apply Array.ext_getElem?;intro t;by_cases htl:t<a.tmps.size
      ·rw[hx.2.2 t htl,hy.2.2 t htl]
      ·rw[Array.getElem?_eq_none (by have:=hx.2.1;omega),Array.getElem?_eq_none (by have:=hy.2.1;omega)]
     have hd:x.defers=y.defers:=hx.1.trans hy.1.symm;cases x;cases y;simp only at ht hd;rw[ht,hd]
    exact q _ _ hF3 hst
   rw[e];exact h4
 refine at_reg Y.hm hc ?_;refine zad hb hB (fun zb vs w'=>((∀ j,m≤j→zb.getD j false=false)∧DS ops (spM ops m sp) β vals V' w zb vs w')∨∃ n',m<n'∧n'≤ops.size∧(∀ j,j<n'→zb.getD j false=true)∧(∀ j,n'≤j→zb.getD j false=false)∧∀ a',Frm ops vs a zb a'→wpL P ops (QK P Q ks) (ops.toList.drop n') a' w') ?_ ?_ ?_
 ·intro w1 h1;have hf:∀ j,¬ (Array.replicate ops.size false).getD j false=true:=fun j h=>by
   rw[Array.getD_eq_getD_getElem?,Array.getElem?_replicate]at h;split at h<;>simp at h
  refine .inl ⟨fun j _=>by simpa using hf j,?_,fun j k _ h=>absurd h (hf k),fun j h=>absurd h (hf j),fun j x h=>absurd h (hf j)⟩;rcases h1 with rfl | rfl
  ·exact Below.refl _ _
  ·exact⟨rfl,rfl,rfl,Nat.le_refl _,fun _ _=>rfl⟩
 ·intro zb vs a' w' i o hs ho hi hF D;have hun:=ya hi hs;have hio:i<ops.size:=(Array.getElem?_eq_some_iff.1 ho).1;rcases D with⟨hLn,D⟩|⟨n',h1,h2,h3,h4,h5⟩
  case inr=>
   have hin:i=n':=by
    have hge:n'≤i:=Nat.le_of_not_lt fun h=>hun (h3 i h)
    rcases Nat.eq_or_lt_of_le hge with h|h
    ·exact h.symm
    ·rcases(htl i o (by omega) ho).2 with h6|h6
     ·omega
     ·have:=zf h6 hi;rw[h4 (i-1) (by omega)]at this;cases this
   subst hin;exact tstep i zb vs a' w' o (by omega) hs ho hun h3 h4 hF (h5 a' hF)
  have hev:∀ x s,evS ops c.tm (vals.take i) i x=some s→a'.eval x=up β s:=fun x s h=>evF_ok D hsv hF I.fr hs hi h
  by_cases hiL:m≤i
  ·have him:i=m:=by
    rcases Nat.eq_or_lt_of_le hiL with h|h
    ·exact h.symm
    ·rcases(htl i o hiL ho).2 with h6|h6
     ·omega
     ·have:=zf h6 hi;rw[hLn (i-1) (by omega)]at this;cases this
   subst him;have hall:∀ j,j<i→zb.getD j false=true:=fun j hj=>ancB_ready D.wt (hanc j hj) hi
   have:=(k vs a' w' (fun q hq hl=>by
    obtain⟨y,hy⟩:=mem_spec hq;rcases(D.sv q.1 y (hall q.1 (spl _ _ hy)) (spn _ _ hy)).1 with h|h
    ·have:=spl _ _ hy;omega
    ·exact h) ⟨hfr zb vs a' w' hall hLn hF D,hF.1.trans I.df,R.loc w w' I.hJ (zu.of_below D.bw),fun p hp=>(I.row p hp).below D.bw,I.dis,I.lt,I.inj,ids_tmM hids⟩).out
   unfold AtD at this;exact tstep i zb vs a' w' o (Nat.le_refl _) hs ho hun hall hLn hF this
  have hLs:∀(v:Value) w2,DS ops (spM ops m sp) β vals V' w (zb.setIfInBounds i true) (fun j=>if j=i then v else vs j) w2→((∀ j,m≤j→(zb.setIfInBounds i true).getD j false=false)∧DS ops (spM ops m sp) β vals V' w (zb.setIfInBounds i true) (fun j=>if j=i then v else vs j) w2)∨∃ n',m<n'∧n'≤ops.size∧(∀ j,j<n'→(zb.setIfInBounds i true).getD j false=true)∧(∀ j,n'≤j→(zb.setIfInBounds i true).getD j false=false)∧∀ a',Frm ops (fun j=>if j=i then v else vs j) a (zb.setIfInBounds i true) a'→wpL P ops (QK P Q ks) (ops.toList.drop n') a' w2:=by
   intro v w2 D2;refine .inl ⟨fun j hj=>?_,D2⟩;have:¬ (zb.setIfInBounds i true).getD j false=true:=fun h=>by
    rcases yx h with h|h
    ·omega
    ·rw[hLn j hj]at h;cases h
   simpa using this
  have wt':∀ j k,xa ops k j=true→(zb.setIfInBounds i true).getD k false=true→(zb.setIfInBounds i true).getD j false=true:=fun j k hw hk=>by
   rcases yx hk with rfl|hk
   ·exact zc (zf hw hi)
   ·exact zc (D.wt j k hw hk)
  cases hsi:qu (spM ops m sp) i with
  | some x=>
   have hsi':qu sp i=some x:=spi i x (by omega) hsi;refine ky (fun a'' w'' h=>?_) (hsp i x o hsi' ho zb vs a' w' hF hi D.bw (fun q hq hl=>by
    obtain⟨y,hy⟩:=mem_spec hq;rcases(D.sv q.1 y hl (spn _ _ hy)).1 with h|h
    ·rw[hLn _ h]at hl;cases hl
    ·exact h) hev)
   obtain⟨v,rfl,h1,h2,h3⟩:=h;refine⟨v,rfl,hLs v w'' ⟨D.bw.trans (h3.mono D.bw.size),wt',fun j hj hn=>?_,fun j y hj hy=>?_⟩⟩
   ·have hji:j≠i:=fun e=>by rw[e,hsi]at hn;cases hn
    simp only[if_neg hji];exact D.rk j ((yx hj).resolve_left hji) hn
   ·by_cases hji:j=i
    ·subst hji;rw[hsi]at hy;cases hy;simp only[if_true];exact⟨.inr h2,h1⟩
    ·simp only[if_neg hji];obtain⟨a1,a2⟩:=D.sv j y ((yx hj).resolve_left hji) hy;exact⟨hV' j _ _ _ a1 h3,a2⟩
  | none=>
   obtain⟨f,s,e',hq,he',hvi⟩:=(hspec i o (by simpa using ho)).2 (by rw[Nat.zero_add];exact hsi);rw[Nat.zero_add]at hq hvi
   have next:∀ v w2,v=upO β s→Below w'.heap.size w' w2→∃ v',a'.put o.dst v=a'.put o.dst v'∧(((∀ j,m≤j→(zb.setIfInBounds i true).getD j false=false)∧DS ops (spM ops m sp) β vals V' w (zb.setIfInBounds i true) (fun j=>if j=i then v' else vs j) w2)∨∃ n',m<n'∧n'≤ops.size∧(∀ j,j<n'→(zb.setIfInBounds i true).getD j false=true)∧(∀ j,n'≤j→(zb.setIfInBounds i true).getD j false=false)∧∀ a',Frm ops (fun j=>if j=i then v' else vs j) a (zb.setIfInBounds i true) a'→wpL P ops (QK P Q ks) (ops.toList.drop n') a' w2):=by
    intro v w2 hv hb2;refine⟨v,rfl,hLs v w2 ⟨D.bw.trans (hb2.mono D.bw.size),wt',fun j hj hn=>?_,fun j y hj hy=>?_⟩⟩
    ·by_cases hji:j=i
     ·subst hji;simp only[if_true];rw[hvi,hv];rfl
     ·simp only[if_neg hji];exact D.rk j ((yx hj).resolve_left hji) hn
    ·have hji:j≠i:=fun e=>by rw[e,hsi]at hy;cases hy
     simp only[if_neg hji];obtain⟨a1,a2⟩:=D.sv j y ((yx hj).resolve_left hji) hy;exact⟨hV' j _ _ _ a1 hb2,a2⟩
   have hgo:∀ j b,o.guard=some (j,b)→qu (spM ops m sp) j=none:=fun j b hg=>by
    unfold gsB at hgs;have:=Array.all_eq_true.1 hgs i hio;rw[Array.getElem?_eq_some_iff]at ho;obtain⟨_,ho⟩:=ho;rw[ho,hg]at this;simpa using this
   unfold qop at hq;split at hq
   ·next hw=>
    cases hq;have hnw:=wantS_ok D hsv hF hB dl hi hgo hw;unfold wpG;rw[hnw];simp only[Bool.false_eq_true,if_false];exact next undef w' rfl (Below.refl _ _)
   ·cases hq
   ·next hw=>
    have hnw:=wantS_ok D hsv hF hB dl hi hgo hw;unfold wpG;rw[hnw];simp only[if_true];have hJ':J w':=R.loc w w' I.hJ (zu.of_below D.bw);have hevL:∀{xs:List Operand} {us:List Value},(xs.mapM fun x=>plain (evS ops c.tm (vals.take i) i x))=some us→xs.map a'.eval=us:=by
     intro xs
     induction xs with
     | nil=>intro us h;simp at h;subst h;rfl
     | cons x xs ih=>
      intro us h;rw[List.mapM_cons]at h;cases h1:plain (evS ops c.tm (vals.take i) i x)with
      | none=>rw[h1]at h;simp at h
      | some v=>
       cases h2:(xs.mapM fun x=>plain (evS ops c.tm (vals.take i) i x))with
       | none=>rw[h1,h2]at h;simp at h
       | some us'=>
        rw[h1,h2]at h;simp at h;subst h;rw[List.map_cons,ih h2,hev _ _ (zx h1)];rfl
    split at hq
    ·simp only[Option.map_eq_some_iff,Prod.mk.injEq]at hq;obtain⟨sv,hn,rfl,rfl⟩:=hq;exact natG_ok Y hev (fun id r h=>(I.row _ (yl h)).below D.bw) hn fun w2 hb2=>next _ w2 rfl hb2
    ·next f=>
     split at hq
     ·next g xs ts hop=>
      split at hq
      ·next hfg=>
       subst hfg;simp only[Option.map_eq_some_iff,Prod.mk.injEq]at hq;obtain⟨us',hm2,rfl,rfl⟩:=hq;have h1:=hevL hm2;have h2:=he' _ (List.mem_singleton.2 rfl);simp only[Value.tuple.injEq]at h2;refine Oper.wp_mono ?_ (zd5 f.f xs ts hop (vs:=f.args) ?_ (f.hr xs ts) (f.hc w' (hT w' hJ')))
       ·rintro a2 w2 ⟨rfl,hb2⟩;exact next _ w2 rfl hb2
       ·rw[← h2,← h1];apply Array.ext';simp
      ·cases hq
     ·cases hq
    ·next f=>
     split at hq
     ·next hok=>
      simp only[Option.map_eq_some_iff,Prod.mk.injEq]at hq;obtain⟨us',hm2,rfl,rfl⟩:=hq;have h1:=hevL hm2;have h2:=he' _ (List.mem_singleton.2 rfl);simp only[Value.tuple.injEq]at h2;exact vd (f.h a' w' o (.inr (hT w' hJ')) hok (by rw[h1,h2])) (next _ w' rfl (Below.refl _ _))
     ·cases hq
 ·intro zb vs a' w' hd hF D;rcases D with⟨h1,_⟩|⟨n',h1,h2,h3,h4,h5⟩
  ·have:=hd m hmo;rw[h1 m (Nat.le_refl _)]at this;cases this
  ·have hn:n'=ops.size:=by
    rcases Nat.eq_or_lt_of_le h2 with h|h
    ·exact h
    ·have:=hd n' h;rw[h4 n' (Nat.le_refl _)]at this;cases this
   have:=h5 a' hF;rw[hn,List.drop_eq_nil_of_le (by simp)]at this;exact this
end
section
variable {P:Program} {J:World→Prop} {F:Nat→Prop} {ds:List Deferred} {β:Nat→Nat} {c:Cf} {a:Act} {w:World} {Q:Exit→Act→World→Prop}
def dnX (P:Program) {T:World→Prop} (m:Nat) (sp:Spt) (fs:List (Fa P T)) (c:Cf):Option (Vs×List (Value×Value)):=
 match drQ c with
 | some (ops,ks)=>match goS P T (foV P) (ioV P) (spM ops m sp) ops c.tm c.rows ops.toList 0 [] fs with
  | some (vals,us,e)=>if(kc ops&&zbx ops&&gsB ops (spM ops m sp)&&dstB ops c.tm.length&&va (tmM ops m sp c.tm vals fun _=>undef) c.nx&&tailX ops m&&(sp.all fun p=>decide (p.1<m)))=true then some (vals,e)else none
  | none=>none
 | none=>none
abbrev valsN (P:Program) {T:World→Prop} (m:Nat) (sp:Spt) (fs:List (Fa P T)) (c:Cf):Vs:=((dnX P m sp fs c).map (·.1)).getD []
abbrev dnC (P:Program) {T:World→Prop} (m:Nat) (sp:Spt) (fs:List (Fa P T)) (c:Cf) (vs:Nat→Value):Cf:={ ops:=vj c,rest:=(vj c).toList.drop m,ks:=ksD c,tm:=tmM (vj c) m sp c.tm (valsN P m sp fs c) vs,rows:=c.rows,nx:=c.nx,dn:=none }
theorem dwN{T:World→Prop}(m:Nat)(sp:Spt)(hnd:∀(n:Nat) (o:Oper),m≤n→(vj c)[n]? = some o→NoD P o)(fs:List (Fa P T))(V:Nat→Value→World→Prop)(hV:∀ i v w w',V i v w→Below w.heap.size w w'→V i v w')(R:qm J F)(hT:∀ w,J w→T w)(I:SI J F ds β c a w)(hsp:∀ p∈sp,∀ o,(vj c)[p.1]? = some o→∀ zb vs a' w',Frm (vj c) vs a zb a'→p.1∈Region.ready .any (vj c) zb→Below w.heap.size w w'→(∀ q∈sp,zb.getD q.1 false=true→V q.1 (vs q.1) w')→(∀ x s,evS (vj c) c.tm ((valsN P m sp fs c).take p.1) p.1 x=some s→a'.eval x=up β s) →
   wpG (vj c) o P a' w' (fun a'' w''=>∃ v,a''=a'.put o.dst v∧(∀ u,p.2=some u→v=u)∧V p.1 v w''∧Below w'.heap.size w' w'') (QK P Q (ksD c)))(k:∀ vs a' w',(∀ q∈sp,q.1<(vj c).size→V q.1 (vs q.1) w')→SI J F ds β (dnC P m sp fs c vs) a' w'→At P Q (dnC P m sp fs c vs) a' w')(hm:P.follows .mixedOrders=true:=by kernel_rfl)(hs:(dnX P m sp fs c).isSome=true:=by kernel_rfl)(he:(dnX P m sp fs c).map (fun r=>r.2.map (·.1))=(dnX P m sp fs c).map (fun r=>r.2.map (·.2)):=by kernel_rfl):At P Q c a w:=by
 cases hx:dnX P m sp fs c with
 | none=>rw[hx]at hs;cases hs
 | some r=>
  unfold valsN at hsp;unfold dnC valsN at k;rw[hx]at he k hsp;unfold dnX at hx;unfold vj ksD at hsp k;unfold vj at hnd;split at hx
  ·next ops ks hc=>
   rw[hc]at hsp k hnd;split at hx
   ·next vals us e hg=>
    split at hx
    ·next hb=>
     cases hx;simp only[Option.map_some,Option.some.injEq,Option.getD_some]at he k hsp hnd;simp only[Bool.and_eq_true]at hb;exact drawN m (ty_ok hm) R hT V hV hc hg (eqs_of he) hb.1.1.1.1.1.1 hb.1.1.1.1.1.2 hb.1.1.1.1.2 hb.1.1.1.2 hb.1.1.2 hb.1.2 hnd hb.2 I (fun i x o hx ho=>hsp (i,x) (spec_mem hx) o ho) k
    ·cases hx
   ·cases hx
  ·cases hx
end
theorem noD_store{P:Program}{o:Oper}{t:TypeId}{x y:Operand}(hop:o.op=.store t x y):NoD P o:=⟨fun a w d w' h=>by
 unfold execOp at h;simp only[hop,Sem.run_bind]at h;cases hq:(Instr.storeAt t (a.eval x) (a.eval y)).run P w with
 | ok u w2=>rw[hq]at h;simp[Result.andThen]at h
 | halt s w2=>rw[hq]at h;simp[Result.andThen]at h⟩
theorem noD_field{P:Program}{o:Oper}{t:TypeId}{x:Operand}{f:Nat}(hop:o.op=.fieldAddr t x f):NoD P o:=⟨fun a w d w' h=>by
 unfold execOp at h;simp only[hop,Sem.run_bind]at h;cases hq:(Instr.fieldAt t (a.eval x) f).run P w with
 | ok u w2=>rw[hq]at h;simp[Result.andThen]at h
 | halt s w2=>rw[hq]at h;simp[Result.andThen]at h⟩
theorem noD_app{P:Program}{o:Oper}{xs:Array Operand}{ts:Array TypeId}(hop:o.op=.call ⟨.builtin .append,xs,ts⟩):NoD P o:=⟨fun a w d w' h=>by
 have he:∃ ty,(execOp a.eval o).run P w=((Builtin.append_ ts ty (xs.map a.eval)).run P w).andThen fun v w2=>.ok (.value v) w2:=by
  refine⟨o.type,?_⟩;unfold execOp;simp only[hop,resolve,invoke,Sem.run_bind,Sem.run_pure,Result.andThen_ok,builtin]
 obtain⟨ty,he⟩:=he;rw[he]at h;cases hq:(Builtin.append_ ts ty (xs.map a.eval)).run P w with
 | ok u w2=>rw[hq]at h;simp[Result.andThen]at h
 | halt s w2=>rw[hq]at h;simp[Result.andThen]at h⟩
end Go.Proofs.YtceedgdbhlpjlaaGreatDoor
