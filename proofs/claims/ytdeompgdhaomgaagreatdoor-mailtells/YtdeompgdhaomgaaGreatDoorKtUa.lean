/- Laid one behind the other: Ua, Ub, Ud. -/
import Derived.Test.YtdeompgdhaomgaaGreatDoorKtVo
namespace Go.Proofs.YtdeompgdhaomgaaGreatDoor
open Go.RowKit Go.Sort Go.Proofs.Tryz
set_option linter.unusedVariables false
set_option maxRecDepth 100000
set_option maxHeartbeats 4000000
abbrev Spt:Type:=List (Nat×Option Value)
def yi (sp:Spt) (j:Nat):Option (Option Value):=(sp.find? fun p=>p.1 == j).map (·.2)
theorem za1{sp:Spt}{j:Nat}{x:Option Value}(h:yi sp j=some x):(j,x)∈sp:=by
 unfold yi at h;rw[Option.map_eq_some_iff]at h;obtain⟨p,h1,h2⟩:=h;have h3:=List.find?_some h1;have h4:=List.mem_of_find?_eq_some h1;simp only[beq_iff_eq]at h3;obtain⟨p1,p2⟩:=p;simp only at h2 h3;subst h2 h3;exact h4
theorem zbt{sp:Spt}{p:Nat×Option Value}(h:p∈sp):∃ x,yi sp p.1=some x:=by
 unfold yi;cases hq:sp.find? fun q=>q.1 == p.1 with
 | none=>
  have:=List.find?_eq_none.1 hq p h;simp at this
 | some q=>exact⟨q.2,rfl⟩
section
variable (P:Program) (T:World→Prop) (fo:Nat→Nat→Option Nat) (io:Nat→Int→Option Nat)
def goS (sp:Spt) (ops:Array Oper) (tm:Vs) (rows:Rows):List Oper→Nat→Vs→List (Fa P T)→Option (Vs×List (Fa P T)×List (Value×Value))
 | [],_,vals,_=>some (vals,[],[])
 | o::os,k,vals,fs=>match yi sp k with
  | some x=>(goS sp ops tm rows os (k+1) (vals++[x.map Sum.inl]) fs).map fun r=>(r.1,Sum.inl ()::r.2.1,r.2.2)
  | none=>match qop P T fo io ops tm rows vals k o (Sum.inl ())with
   | some (s,e)=>(goS sp ops tm rows os (k+1) (vals++[s]) fs).map fun r=>(r.1,Sum.inl ()::r.2.1,e++r.2.2)
   | none=>match fs with
    | []=>none
    | f::fs'=>match qop P T fo io ops tm rows vals k o f with
     | some (s,e)=>(goS sp ops tm rows os (k+1) (vals++[s]) fs').map fun r=>(r.1,f::r.2.1,e++r.2.2)
     | none=>none
end
def tmS (ops:Array Oper) (sp:Spt) (tm vals:Vs) (vs:Nat→Value):Vs:=(List.range tm.length).map fun t=>match wr ops t with
 | some j=>(match yi sp j with
  | some _=>some (Sum.inl (vs j))
  | none=>(vals[j]?).join)
 | none=>(tm[t]?).join
theorem ids_tmS{ops:Array Oper}{sp:Spt}{tm vals:Vs}{vs:Nat→Value}{nx:Nat}(h:xo (tmS ops sp tm vals fun _=>undef) nx=true):xo (tmS ops sp tm vals vs) nx=true:=by
 unfold xo tmS at h ⊢;rw[List.all_map,List.all_eq_true]at h ⊢;intro t ht;have:=h t ht;simp only[Function.comp]at this ⊢;cases hw:wr ops t with
 | none=>rw[hw]at this;exact this
 | some j=>
  rw[hw]at this;simp only at this ⊢;cases hs:yi sp j with
  | none=>rw[hs]at this;exact this
  | some x=>rfl
section
variable {P:Program} {T:World→Prop} {fo:Nat→Nat→Option Nat} {io:Nat→Int→Option Nat} {ze:Nat→Option (Array Value)} {ops:Array Oper} {tm:Vs} {rows:Rows} {sp:Spt}
theorem zbz:∀{os:List Oper} {k:Nat} {v0 vals:Vs} {fs us:List (Fa P T)} {e:List (Value×Value)},v0.length=k→goS P T fo io sp ops tm rows os k v0 fs=some (vals,us,e)→(∀ p∈e,p.1=p.2) →
  vals.length=k+os.length∧vals.take k=v0∧∀ j o,os[j]? = some o→(∀ x,yi sp (k+j)=some x→vals[k+j]? = some (x.map Sum.inl))∧(yi sp (k+j)=none→∃ f s e',qop P T fo io ops tm rows (vals.take (k+j)) (k+j) o f=some (s,e')∧(∀ p∈e',p.1=p.2)∧vals[k+j]? = some s)
 | [],k,v0,vals,fs,us,e,hk,h,he=>by
  simp only[goS,Option.some.injEq,Prod.mk.injEq]at h;obtain⟨rfl,rfl,rfl⟩:=h;exact⟨by simp[hk],by rw[← hk,List.take_length],fun j o ho=>by simp at ho⟩
 | o::os,k,v0,vals,fs,us,e,hk,h,he=>by
  have main:∀{s:Option SV} {e1:List (Value×Value)} {fs' us':List (Fa P T)} {e2:List (Value×Value)},((∀ x,yi sp k=some x→s=x.map Sum.inl)∧(yi sp k=none→∃ f,qop P T fo io ops tm rows v0 k o f=some (s,e1)))→goS P T fo io sp ops tm rows os (k+1) (v0++[s]) fs'=some (vals,us',e2)→e=e1++e2 →
    vals.length=k+(o::os).length∧vals.take k=v0∧∀ j o',(o::os)[j]? = some o'→(∀ x,yi sp (k+j)=some x→vals[k+j]? = some (x.map Sum.inl))∧(yi sp (k+j)=none→∃ f s e',qop P T fo io ops tm rows (vals.take (k+j)) (k+j) o' f=some (s,e')∧(∀ p∈e',p.1=p.2)∧vals[k+j]? = some s):=by
   intro s e1 fs' us' e2 hq hg hee;subst hee;obtain⟨h1,h2,h3⟩:=zbz (by simp[hk]) hg fun p hp=>he p (List.mem_append_right _ hp)
   have ht:vals.take k=v0:=by
    have:=congrArg (List.take k) h2;rw[List.take_take,Nat.min_eq_left (Nat.le_succ k),List.take_append_of_le_length (by omega),← hk,List.take_length]at this;rw[← hk];exact this
   have hvk:vals[k]? = some s:=by
    have:=congrArg (·[k]?) h2;simp only[List.getElem?_take,Nat.lt_succ_self,if_true]at this;rw[this];simp[hk]
   refine⟨by simp only[List.length_cons];omega,ht,fun j o' ho=>?_⟩;cases j with
   | zero=>
    simp only[List.getElem?_cons_zero,Option.some.injEq]at ho;subst ho;rw[Nat.add_zero];refine⟨fun x hx=>by rw[hvk,hq.1 x hx],fun hn=>?_⟩;obtain⟨f,hf⟩:=hq.2 hn;exact⟨f,s,e1,by rw[ht];exact hf,fun p hp=>he p (List.mem_append_left _ hp),hvk⟩
   | succ j=>
    have:=h3 j o' (by simpa using ho);rw[show k+(j+1)=k+1+j by omega];exact this
  simp only[goS]at h;split at h
  ·next x hx=>
   simp only[Option.map_eq_some_iff,Prod.mk.injEq]at h;obtain⟨⟨v,u,e2⟩,hg,rfl,rfl,rfl⟩:=h;exact main (e1:=[]) ⟨fun y hy=>(by rw[hx]at hy;cases hy;rfl),fun hn=>(by rw[hx]at hn;cases hn)⟩ hg rfl
  ·next hx=>
   split at h
   ·next s e1 hq=>
    simp only[Option.map_eq_some_iff,Prod.mk.injEq]at h;obtain⟨⟨v,u,e2⟩,hg,rfl,rfl,rfl⟩:=h;exact main ⟨fun y hy=>(by rw[hx]at hy;cases hy),fun _=>⟨_,hq⟩⟩ hg rfl
   ·split at h
    ·cases h
    ·next f fs'=>
     split at h
     ·next s e1 hq=>
      simp only[Option.map_eq_some_iff,Prod.mk.injEq]at h;obtain⟨⟨v,u,e2⟩,hg,rfl,rfl,rfl⟩:=h;exact main ⟨fun y hy=>(by rw[hx]at hy;cases hy),fun _=>⟨_,hq⟩⟩ hg rfl
     ·cases h
structure DS (ops:Array Oper) (sp:Spt) (β:Nat→Nat) (vals:Vs) (V:Nat→Value→World→Prop) (w:World) (za:Array Bool) (vs:Nat→Value) (w':World):Prop where
 bw:Below w.heap.size w w'
 wt:∀ j k,ya ops k j=true→za.getD k false=true→za.getD j false=true
 rk:∀ j,za.getD j false=true→yi sp j=none→vs j=upO β (vals[j]?).join
 sv:∀ j x,za.getD j false=true→yi sp j=some x→V j (vs j) w'∧∀ u,x=some u→vs j=u
theorem DS.val{β:Nat→Nat}{vals:Vs}{V:Nat→Value→World→Prop}{w w':World}{za:Array Bool}{vs:Nat→Value}(D:DS ops sp β vals V w za vs w')(hs:∀ j x,yi sp j=some x→j<ops.size→vals[j]? = some (x.map Sum.inl)){j:Nat}(hj:j<ops.size)(hl:za.getD j false=true){s:SV}(h:(vals[j]?).join=some s):vs j=up β s:=by
 cases hq:yi sp j with
 | none=>rw[D.rk j hl hq,h];rfl
 | some x=>
  have h1:=hs j x hq hj;rw[h1]at h;cases x with
  | none=>cases h
  | some u=>
   simp only[Option.map_some,Option.join_some,Option.some.injEq]at h;subst h;exact(D.sv j _ hl hq).2 u rfl
theorem evF_ok{β:Nat→Nat}{vals:Vs}{V:Nat→Value→World→Prop}{w w':World}{a a':Act}{za:Array Bool}{vs:Nat→Value}(D:DS ops sp β vals V w za vs w')(hsv:∀ j x,yi sp j=some x→j<ops.size→vals[j]? = some (x.map Sum.inl))(hF:Frm ops vs a za a')(ha:a.tmps=(tm.map (upO β)).toArray){i:Nat}(hs:za.size=ops.size)(hi:i∈Region.ready .any ops za){x:Operand}{s:SV}(h:evS ops tm (vals.take i) i x=some s):a'.eval x=up β s:=by
 have hun:=zai hi hs;cases x with
 | const v=>simp only[evS,Option.some.injEq]at h;subst h;rfl
 | tmp t=>
  simp only[evS]at h;cases hw:wr ops t with
  | none=>rw[hw]at h;rw[hF.old hw];exact zbg ha h
  | some j=>
   rw[hw]at h;simp only[]at h;by_cases hn:newB ops tm.length i t j=true
   ·rw[if_pos hn]at h;simp only[newB,Bool.and_eq_true,beq_iff_eq,decide_eq_true_eq]at hn;have hl:=zk hn.1.2 hi;have h2:=join_some h;rw[List.getElem?_take]at h2;split at h2
    ·next hlt=>
     rw[hF.new hw (by rw[ha];simpa using hn.2) hl];exact D.val hsv (zb4 hw).2 hl (by rw[h2];rfl)
    ·cases h2
   ·rw[if_neg hn]at h;by_cases hq:ya ops j i=true
    ·rw[if_pos hq]at h;have hnl:¬ za.getD j false=true:=fun hl=>hun (D.wt i j hq hl)
     rw[← zbg ha h];show a'.tmps.getD t undef=a.tmps.getD t undef;rw[Array.getD_eq_getD_getElem?,Array.getD_eq_getD_getElem?];by_cases ht:t<a.tmps.size
     ·rw[hF.2.2 t ht,hw];simp only[if_neg hnl]
     ·have h1:a.tmps.size≤t:=Nat.le_of_not_lt ht;have h2:a'.tmps.size≤t:=by rw[hF.2.1];exact h1
      rw[Array.getElem?_eq_none h2,Array.getElem?_eq_none h1]
    ·rw[if_neg hq]at h;cases h
 | global g=>simp[evS]at h
 | func f=>simp[evS]at h
theorem vh{β:Nat→Nat}{vals:Vs}{V:Nat→Value→World→Prop}{w w':World}{a a':Act}{za:Array Bool}{vs:Nat→Value}(D:DS ops sp β vals V w za vs w')(hsv:∀ j x,yi sp j=some x→j<ops.size→vals[j]? = some (x.map Sum.inl))(hF:Frm ops vs a za a'){i:Nat}{o:Oper}(hB:kn ops=true)(hdl:∀ t j,wr ops t=some j→t<a.tmps.size)(hi:i∈Region.ready .any ops za){b:Bool}(hgs:∀ j b,o.guard=some (j,b)→yi sp j=none)(h:wantD ops (vals.take i) i o=some b):Region.wanted o (yielded ops a'.tmps)=b:=by
 unfold wantD at h;unfold Region.wanted;split at h
 ·next hg=>rw[hg];cases h;rfl
 ·next j b' hg=>
  rw[hg];simp only[];split at h
  ·next hj=>
   obtain⟨hw,hd⟩:=hj;obtain⟨t,ht⟩:=Option.isSome_iff_exists.1 hd;obtain⟨oj,hoj,hojd⟩:∃ oj,ops[j]? = some oj∧oj.dst=some t:=by
    cases hq:ops[j]? with
    | none=>rw[hq]at ht;cases ht
    | some oj=>rw[hq]at ht;exact⟨oj,rfl,ht⟩
   have hwr:=qp hB hoj t hojd;have hl:=zk hw hi;have ey:∀ s,(vals.take i)[j]? = some s→yielded ops a'.tmps j=(match upO β s with | .bool q=>some q | _=>none):=by
    intro s hs;rw[List.getElem?_take]at hs;split at hs
    ·next hlt=>
     have h3:a'.tmps[t]? = some (vs j):=by
      rw[hF.2.2 t (hdl t j hwr),hwr];simp only[if_pos hl]
     rw[D.rk j hl (hgs j b' hg),hs]at h3;unfold yielded;rw[ht];simp only[Option.bind_some];rw[h3];simp only[Option.join_some];cases upO β s<;>rfl
    ·cases hs
   split at h
   ·next q hq=>rw[ey _ hq];cases h;cases q<;>cases b'<;>rfl
   ·next hq=>rw[ey _ hq];cases h;cases b'<;>rfl
   ·cases h
  ·cases h
def gsB (ops:Array Oper) (sp:Spt):Bool:=ops.all fun o=>match o.guard with | some (j,_)=>(yi sp j).isNone | none=>true
theorem drawS{J:World→Prop}{F:Nat→Prop}{ds:List Deferred}{β:Nat→Nat}{c:Cf}{a:Act}{w:World}{Q:Exit→Act→World→Prop}(Y:Ty P fo io ze)(R:yw J F)(hT:∀ w,J w→T w){ks:List Ki}{fs us:List (Fa P T)}{vals:Vs}{e:List (Value×Value)}(V:Nat→Value→World→Prop)(hV:∀ i v w w',V i v w→Below w.heap.size w w'→V i v w')(hc:drQ c=some (ops,ks))(hg:goS P T fo io sp ops c.tm c.rows ops.toList 0 [] fs=some (vals,us,e))(he:∀ p∈e,p.1=p.2)(hb:qi ops=true)(hB:kn ops=true)(hgs:gsB ops sp=true)(hds:dstB ops c.tm.length=true)(hids:xo (tmS ops sp c.tm vals fun _=>undef) c.nx=true)(I:SI J F ds β c a w)(hsp:∀ i x o,yi sp i=some x→ops[i]? = some o→∀ za vs a' w',Frm ops vs a za a'→i∈Region.ready .any ops za→Below w.heap.size w w'→(∀ q∈sp,za.getD q.1 false=true→V q.1 (vs q.1) w')→(∀ x s,evS ops c.tm (vals.take i) i x=some s→a'.eval x=up β s) →
   wpG ops o P a' w' (fun a'' w''=>∃ v,a''=a'.put o.dst v∧(∀ u,x=some u→v=u)∧V i v w''∧Below w'.heap.size w' w'') (QK P Q ks))(k:∀ vs a' w',(∀ q∈sp,q.1<ops.size→V q.1 (vs q.1) w')→SI J F ds β { ops:=#[],rest:=[],ks:=ks,tm:=tmS ops sp c.tm vals vs,rows:=c.rows,nx:=c.nx,dn:=none } a' w'→At P Q { ops:=#[],rest:=[],ks:=ks,tm:=tmS ops sp c.tm vals vs,rows:=c.rows,nx:=c.nx,dn:=none } a' w'):At P Q c a w:=by
 obtain⟨hvl,_,hspec⟩:=zbz (k:=0) (v0:=[]) rfl hg he;have htm:a.tmps.size=c.tm.length:=by rw[I.fr];simp
 have dl:∀ t j,wr ops t=some j→t<a.tmps.size:=fun t j h=>by rw[htm];exact dstB_ok hds h
 have hsv:∀ j x,yi sp j=some x→j<ops.size→vals[j]? = some (x.map Sum.inl):=fun j x hx hj=>by
  have:=(hspec j ops[j] (by simp[hj])).1 x (by rw[Nat.zero_add];exact hx)
  rwa [Nat.zero_add]at this
 refine at_reg Y.hm hc ?_;refine vu hb hB (fun za vs w'=>DS ops sp β vals V w za vs w') ?_ ?_ ?_
 ·intro w1 h1;have hf:∀ j,¬ (Array.replicate ops.size false).getD j false=true:=fun j h=>by
   rw[Array.getD_eq_getD_getElem?,Array.getElem?_replicate]at h;split at h<;>simp at h
  refine⟨?_,fun j k _ h=>absurd h (hf k),fun j h=>absurd h (hf j),fun j x h=>absurd h (hf j)⟩;rcases h1 with rfl | rfl
  ·exact Below.refl _ _
  ·exact⟨rfl,rfl,rfl,Nat.le_refl _,fun _ _=>rfl⟩
 ·intro za vs a' w' i o hs ho hi hF D;have hun:=zai hi hs;have hio:i<ops.size:=(Array.getElem?_eq_some_iff.1 ho).1;have hev:∀ x s,evS ops c.tm (vals.take i) i x=some s→a'.eval x=up β s:=fun x s h=>evF_ok D hsv hF I.fr hs hi h
  have wt':∀ j k,ya ops k j=true→(za.setIfInBounds i true).getD k false=true→(za.setIfInBounds i true).getD j false=true:=fun j k hw hk=>by
   rcases zm hk with rfl|hk
   ·exact z6 (zk hw hi)
   ·exact z6 (D.wt j k hw hk)
  cases hsi:yi sp i with
  | some x=>
   refine yq (fun a'' w'' h=>?_) (hsp i x o hsi ho za vs a' w' hF hi D.bw (fun q hq hl=>by
    obtain⟨y,hy⟩:=zbt hq;exact(D.sv q.1 y hl hy).1) hev)
   obtain⟨v,rfl,h1,h2,h3⟩:=h;refine⟨v,rfl,D.bw.trans (h3.mono D.bw.size),wt',fun j hj hn=>?_,fun j y hj hy=>?_⟩
   ·have hji:j≠i:=fun e=>by rw[e,hsi]at hn;cases hn
    simp only[if_neg hji];exact D.rk j ((zm hj).resolve_left hji) hn
   ·by_cases hji:j=i
    ·subst hji;rw[hsi]at hy;cases hy;simp only[if_true];exact⟨h2,h1⟩
    ·simp only[if_neg hji];obtain⟨a1,a2⟩:=D.sv j y ((zm hj).resolve_left hji) hy;exact⟨hV j _ _ _ a1 h3,a2⟩
  | none=>
   obtain⟨f,s,e',hq,he',hvi⟩:=(hspec i o (by simpa using ho)).2 (by rw[Nat.zero_add];exact hsi);rw[Nat.zero_add]at hq hvi;have next:∀ v w2,v=upO β s→Below w'.heap.size w' w2→∃ v',a'.put o.dst v=a'.put o.dst v'∧DS ops sp β vals V w (za.setIfInBounds i true) (fun j=>if j=i then v' else vs j) w2:=by
    intro v w2 hv hb2;refine⟨v,rfl,D.bw.trans (hb2.mono D.bw.size),wt',fun j hj hn=>?_,fun j y hj hy=>?_⟩
    ·by_cases hji:j=i
     ·subst hji;simp only[if_true];rw[hvi,hv];rfl
     ·simp only[if_neg hji];exact D.rk j ((zm hj).resolve_left hji) hn
    ·have hji:j≠i:=fun e=>by rw[e,hsi]at hy;cases hy
     simp only[if_neg hji];obtain⟨a1,a2⟩:=D.sv j y ((zm hj).resolve_left hji) hy;exact⟨hV j _ _ _ a1 hb2,a2⟩
   have hgo:∀ j b,o.guard=some (j,b)→yi sp j=none:=fun j b hg=>by
    unfold gsB at hgs;have:=Array.all_eq_true.1 hgs i hio;rw[Array.getElem?_eq_some_iff]at ho;obtain⟨_,ho⟩:=ho;rw[ho,hg]at this;simpa using this
   unfold qop at hq;split at hq
   ·next hw=>
    cases hq;have hnw:=vh D hsv hF hB dl hi hgo hw;unfold wpG;rw[hnw];simp only[Bool.false_eq_true,if_false];exact next undef w' rfl (Below.refl _ _)
   ·cases hq
   ·next hw=>
    have hnw:=vh D hsv hF hB dl hi hgo hw;unfold wpG;rw[hnw];simp only[if_true];have hJ':J w':=R.loc w w' I.hJ (zi.of_below D.bw);have hevL:∀{xs:List Operand} {us:List Value},(xs.mapM fun x=>plain (evS ops c.tm (vals.take i) i x))=some us→xs.map a'.eval=us:=by
     intro xs
     induction xs with
     | nil=>intro us h;simp at h;subst h;rfl
     | cons x xs ih=>
      intro us h;rw[List.mapM_cons]at h;cases h1:plain (evS ops c.tm (vals.take i) i x)with
      | none=>rw[h1]at h;simp at h
      | some v=>
       cases h2:(xs.mapM fun x=>plain (evS ops c.tm (vals.take i) i x))with
       | none=>rw[h1,h2]at h;simp at h
       | some us'=>
        rw[h1,h2]at h;simp at h;subst h;rw[List.map_cons,ih h2,hev _ _ (zp h1)];rfl
    split at hq
    ·simp only[Option.map_eq_some_iff,Prod.mk.injEq]at hq;obtain⟨sv,hn,rfl,rfl⟩:=hq;exact zb3 Y hev (fun id r h=>(I.row _ (zy h)).below D.bw) hn fun w2 hb2=>next _ w2 rfl hb2
    ·next f=>
     split at hq
     ·next g xs ts hop=>
      split at hq
      ·next hfg=>
       subst hfg;simp only[Option.map_eq_some_iff,Prod.mk.injEq]at hq;obtain⟨us',hm2,rfl,rfl⟩:=hq;have h1:=hevL hm2;have h2:=he' _ (List.mem_singleton.2 rfl);simp only[Value.tuple.injEq]at h2;refine Oper.wp_mono ?_ (zae f.f xs ts hop (vs:=f.args) ?_ (f.hr xs ts) (f.hc w' (hT w' hJ')))
       ·rintro a2 w2 ⟨rfl,hb2⟩;exact next _ w2 rfl hb2
       ·rw[← h2,← h1];apply Array.ext';simp
      ·cases hq
     ·cases hq
    ·next f=>
     split at hq
     ·next hok=>
      simp only[Option.map_eq_some_iff,Prod.mk.injEq]at hq;obtain⟨us',hm2,rfl,rfl⟩:=hq;have h1:=hevL hm2;have h2:=he' _ (List.mem_singleton.2 rfl);simp only[Value.tuple.injEq]at h2;exact xb (f.h a' w' o (.inr (hT w' hJ')) hok (by rw[h1,h2])) (next _ w' rfl (Below.refl _ _))
     ·cases hq
 ·intro za vs a' w' hd hF D;have hfr:a'.tmps=((tmS ops sp c.tm vals vs).map (upO β)).toArray:=by
   apply Array.ext_getElem?;intro t;by_cases ht:t<a.tmps.size
   ·have ht':t<c.tm.length:=by omega
    rw[hF.2.2 t ht];have e0:a.tmps[t]? = some (upO β (c.tm[t]?).join):=by
     rw[I.fr];simp[List.getElem?_eq_getElem ht']
    simp only[List.getElem?_toArray,tmS,List.getElem?_map,List.getElem?_range ht',Option.map_some];cases hw:wr ops t with
    | none=>exact e0
    | some j=>
     have hj:=(zb4 hw).2;simp only[];rw[if_pos (hd j hj)];cases hs:yi sp j with
     | none=>simp only[];rw[D.rk j (hd j hj) hs]
     | some x=>rfl
   ·rw[Array.getElem?_eq_none (by have:=hF.2.1;omega),Array.getElem?_eq_none (by simp[tmS];omega)]
  have:=(k vs a' w' (fun q hq hl=>by
   obtain⟨y,hy⟩:=zbt hq;exact(D.sv q.1 y (hd q.1 hl) hy).1) ⟨hfr,hF.1.trans I.df,R.loc w w' I.hJ (zi.of_below D.bw),fun p hp=>(I.row p hp).below D.bw,I.dis,I.lt,I.inj,ids_tmS hids⟩).out
  exact this
end
section
variable {P:Program} {J:World→Prop} {F:Nat→Prop} {ds:List Deferred} {β:Nat→Nat} {c:Cf} {a:Act} {w:World} {Q:Exit→Act→World→Prop}
abbrev z9 (c:Cf):Array Oper:=((drQ c).map (·.1)).getD #[]
abbrev ksD (c:Cf):List Ki:=((drQ c).map (·.2)).getD []
def dsX (P:Program) {T:World→Prop} (sp:Spt) (fs:List (Fa P T)) (c:Cf):Option (Vs×List (Value×Value)):=
 match drQ c with
 | some (ops,ks)=>match goS P T (foV P) (ioV P) sp ops c.tm c.rows ops.toList 0 [] fs with
  | some (vals,us,e)=>if(qi ops&&kn ops&&gsB ops sp&&dstB ops c.tm.length&&xo (tmS ops sp c.tm vals fun _=>undef) c.nx)=true then some (vals,e)else none
  | none=>none
 | none=>none
abbrev valsD (P:Program) {T:World→Prop} (sp:Spt) (fs:List (Fa P T)) (c:Cf):Vs:=((dsX P sp fs c).map (·.1)).getD []
abbrev dsC (P:Program) {T:World→Prop} (sp:Spt) (fs:List (Fa P T)) (c:Cf) (vs:Nat→Value):Cf:={ ops:=#[],rest:=[],ks:=ksD c,tm:=tmS (z9 c) sp c.tm (valsD P sp fs c) vs,rows:=c.rows,nx:=c.nx,dn:=none }
theorem dwS{T:World→Prop}(sp:Spt)(fs:List (Fa P T))(V:Nat→Value→World→Prop)(hV:∀ i v w w',V i v w→Below w.heap.size w w'→V i v w')(R:yw J F)(hT:∀ w,J w→T w)(I:SI J F ds β c a w)(hsp:∀ p∈sp,∀ o,(z9 c)[p.1]? = some o→∀ za vs a' w',Frm (z9 c) vs a za a'→p.1∈Region.ready .any (z9 c) za→Below w.heap.size w w'→(∀ q∈sp,za.getD q.1 false=true→V q.1 (vs q.1) w')→(∀ x s,evS (z9 c) c.tm ((valsD P sp fs c).take p.1) p.1 x=some s→a'.eval x=up β s) →
   wpG (z9 c) o P a' w' (fun a'' w''=>∃ v,a''=a'.put o.dst v∧(∀ u,p.2=some u→v=u)∧V p.1 v w''∧Below w'.heap.size w' w'') (QK P Q (ksD c)))(k:∀ vs a' w',(∀ q∈sp,q.1<(z9 c).size→V q.1 (vs q.1) w')→SI J F ds β (dsC P sp fs c vs) a' w'→At P Q (dsC P sp fs c vs) a' w')(hm:P.follows .mixedOrders=true:=by kernel_rfl)(hs:(dsX P sp fs c).isSome=true:=by kernel_rfl)(he:(dsX P sp fs c).map (fun r=>r.2.map (·.1))=(dsX P sp fs c).map (fun r=>r.2.map (·.2)):=by kernel_rfl):At P Q c a w:=by
 cases hx:dsX P sp fs c with
 | none=>rw[hx]at hs;cases hs
 | some r=>
  unfold valsD at hsp;unfold dsC valsD at k;rw[hx]at he k hsp;unfold dsX at hx;unfold z9 ksD at hsp k;split at hx
  ·next ops ks hc=>
   rw[hc]at hsp k;split at hx
   ·next vals us e hg=>
    split at hx
    ·next hb=>
     cases hx;simp only[Option.map_some,Option.some.injEq,Option.getD_some]at he k hsp;simp only[Bool.and_eq_true]at hb;exact drawS (ty_ok hm) R hT V hV hc hg (zb2 he) hb.1.1.1.1 hb.1.1.1.2 hb.1.1.2 hb.1.2 hb.2 I (fun i x o hx ho=>hsp (i,x) (za1 hx) o ho) k
    ·cases hx
   ·cases hx
  ·cases hx
end
theorem bd_U4(x:Nat)(hx:x<M)(w:World):(Instr.build 57 (([0,1,2,3]:List Nat).zip [B x,B 0,B 0,B 0]).toArray).run prog w=.ok (U x) w:=by
 have h:(Instr.build 57 (([0,1,2,3]:List Nat).zip [B x,B 0,B 0,B 0]).toArray).run prog w=.ok (.agg #[B x,B 0,B 0,B 0]) w:=by kernel_rfl
 have h1:=bd_U x hx w;have h2:(Instr.build 57 (([0]:List Nat).zip [B x]).toArray).run prog w=.ok (.agg #[B x,B 0,B 0,B 0]) w:=by kernel_rfl
 rw[h,← h2,h1]
theorem zbq(n:Nat)(hn:n<1000000000000):RT 61 #[Z n] (str (wb n)):=by
 intro w;have hM:n<M:=by unfold M;omega
 refine inZ func61 fun a I=>?_;refine goZ [vO 3 23 (p:=Z n) (v:=B n) (cnvB n hn),dO 57 [0,1,2,3] (bd_U4 n hM),kC func60 (vr n)] I fun β a w1 I hb=>?_;exact xj (v:=str (wb n)) I
theorem made_zeros(n:Nat):(madeCells (Value.int .u8 0).cells (n*1)).toList=bc (List.replicate n 0):=by
 unfold madeCells;simp only[Array.toList_map,Array.toList_range,Nat.mul_one];apply List.ext_getElem
 ·simp
 ·intro i h1 h2;simp[Value.cells,Nat.mod_one]
section
variable {P:Program} {ops:Array Oper} {Q:Exit→Act→World→Prop} {K:Act→World→Prop} {o:Oper} {a:Act} {w:World}
theorem makeG{t:TypeId}{l k:Operand}{v:Value}{w':World}(hop:o.op=.makeSlice t l k)(hg:o.guard=none)(h:(Instr.makeSlice t (a.eval l) (a.eval k)).run P w=.ok v w')(hK:K (a.put o.dst v) w'):wpG ops o P a w K Q:=by
 refine yg hg (xb (v:=v) (w':=w') ?_ hK);unfold execOp;simp only[hop,Sem.run_bind,h,Result.andThen_ok,Sem.run_pure]
theorem convG{s t:TypeId}{x:Operand}{v:Value}{w':World}(hop:o.op=.convert s t x)(hg:o.guard=none)(h:(convert s t (a.eval x)).run P w=.ok v w')(hK:K (a.put o.dst v) w'):wpG ops o P a w K Q:=by
 refine yg hg (xb (v:=v) (w':=w') ?_ hK);unfold execOp;simp only[hop,Sem.run_bind,h,Result.andThen_ok,Sem.run_pure]
end
theorem ym{c:Cf}{i:Nat}{o:Oper}{x:Op}{d:Option Tmp}(ho:(z9 c)[i]? = some o)(h:((z9 c)[i]?).map (fun o=>(o.op,o.dst,o.guard))=some (x,d,none)):o.op=x∧o.dst=d∧o.guard=none:=by
 rw[ho]at h;simp only[Option.map_some,Option.some.injEq,Prod.mk.injEq]at h;exact h
theorem tail_txt(u:Nat)(x:List UInt8)(hx:x.length<500000000000)(lv:Value)(hlv:∃ ad m cap,lv=.slice ad m cap):RT 62 #[.agg (tx (1,u,⟨x.toArray⟩,lv)).toArray] (str (txt ⟨x.toArray⟩)):=by
 intro w;obtain⟨ad,m,cap,rfl⟩:=hlv;have hsz:=zn x;obtain⟨n,hn⟩:∃ n,pad x.length=n:=⟨_,rfl⟩
 have hn32:n<32:=by rw[← hn];unfold pad;omega
 refine inZ func62 fun a I=>?_;refine goQ [kt 1 1 true rfl,lO underlying9 (b:=⟨x.toArray⟩) (n:=x.length) (by rw[hsz]),bO .rem 3 (run_remZ (x:=x.length) (y:=32) (z:=(x.length%32:Nat)) (by decide) (by rw[Int.tmod_eq_emod_of_nonneg (by omega)];omega)),
  ksZ 32 (x.length%32:Nat) (32-x.length%32:Nat),
  bO .rem 3 (run_remZ (x:=(32-x.length%32:Nat)) (y:=32) (z:=n) (by decide) (by rw[Int.tmod_eq_emod_of_nonneg (by omega),← hn];unfold pad;omega))] (zj w) I fun β a w1 I hb=>?_
 have hsz1:a.tmps.size=32:=by rw[I.fr];kernel_rfl
 refine dwS (T:=fun _=>True) [(8,none),(9,some (str (List.replicate n 0)))] [lO underlying9 (b:=⟨x.toArray⟩) (n:=x.length) (by rw[hsz]),kC func61 (zbq x.length (by omega)),bO .add 9 (xq (wb x.length) x (by rw[zx];omega)),bO .add 9 (xq (wb x.length++x) (List.replicate n 0) (by rw[List.length_append,zx,List.length_replicate];omega))]
  (fun i v w'=>i=8→w'.ownsRow w1.heap.size 5 1 v n (bc (List.replicate n 0))) (fun i v w' w'' h hb hi=>x9 (F:=fun _=>True) (h hi) ⟨hb.os,hb.tape,hb.output,hb.size,fun k hk _=>hb.block k hk⟩ fun _ _=>trivial) (zj w) (fun _ _=>trivial) I ?_ ?_
 ·intro p hp o ho za vs a' w' hF hrd hbw hV hev;simp only[List.mem_cons,List.not_mem_nil,or_false]at hp;rcases hp with rfl|rfl
  ·obtain⟨h1,h2,h3⟩:=ym (x:=.makeSlice 104 (.tmp 20) (.tmp 20)) (d:=some 21) ho (by kernel_rfl);have e20:a'.eval (.tmp 20)=Z n:=hev (.tmp 20) (Sum.inl (Z n)) (by kernel_rfl);obtain⟨i,hi,hz,hi1,hi2⟩:=hI5;obtain⟨w2,hr2,ho2,hg2⟩:=run_make_full (P:=prog) w' w1.heap.size 104 5 i _ 1 underlying104 hi hz hi1 .i64 .i64 n (by rw[hi2];omega) (by simp only[maxLen];omega) hbw.size;rw[made_zeros]at ho2;refine makeG h1 h3 (by rw[e20];exact hr2) ⟨_,rfl,fun u hu=>(by cases hu),fun _=>ho2,⟨hg2.os,hg2.tape,hg2.output,hg2.size,fun k hk=>hg2.block k hk (by simp)⟩⟩
  ·obtain⟨h1,h2,h3⟩:=ym (x:=.convert 104 9 (.tmp 21)) (d:=some 22) ho (by kernel_rfl);have hl8:=zk (ops:=z9 _) (i:=9) (j:=8) (by kernel_rfl) hrd;have e21:a'.eval (.tmp 21)=vs 8:=hF.new (i:=8) (by kernel_rfl) (by omega) hl8;have ho8:=hV (8,none) (by simp) hl8 rfl;have hcv:=text_own (l:=List.replicate n 0) (by rw[List.length_replicate];exact ho8);refine convG h1 h3 (by rw[e21];exact hcv) ⟨_,rfl,fun u hu=>(by cases hu;rfl),fun h=>(by cases h),Below.refl _ _⟩
 ·intro vs a2 w2 hV I;refine goZ [] I fun β3 a w3 I hb3=>?_;refine zh (v:=str (wb x.length++x++List.replicate n 0)) I ⟨?_,I.hJ⟩;unfold txt;rw[zn,← hn]
theorem tail_lst{α:Type}{E:α→List UInt8}{W0:World}{L:Value→α→Prop}(hsub:∀(lv:Value) (x:α) (w:World),L lv x→(E x).length+1000≤100000000000→Below W0.heap.size W0 w→Calls prog 30 #[lv] w fun e w'=>e=.returned (str (E x))∧Below w.heap.size w w')(u:Nat)(s:ByteArray){ad:Option Addr}{n cap:Nat}{x:α}(hL:L (.slice ad n cap) x)(hn:n<500000000000)(hE:(E x).length+1000≤100000000000)(w:World)(hb0:Below W0.heap.size W0 w):Calls prog 62 #[.agg (tx (2,u,s,.slice ad n cap)).toArray] w fun e w'=>e=.returned (str (wb n++E x))∧Below w.heap.size w w':=by
 have hs:∀ w',Below w.heap.size w w'→Calls prog 30 #[.slice ad n cap] w' fun e w''=>e=.returned (str (E x))∧Below w'.heap.size w' w'':=fun w' hb=>hsub _ x w' hL hE (hb0.trans (hb.mono hb0.size))
 refine inZ func62 fun a I=>?_;refine goZ [kt 2 1 false rfl] I fun β a w1 I hb=>?_;refine dwT (T:=Below w.heap.size w) 9 [lS underlying48 (ad:=ad) (n:=n) (cap:=cap) rfl,kC func61 (zbq n (by omega)),cA func30 hs,bO .add 9 (xq (wb n) (E x) (by rw[zx];omega))] (zj w) (fun _ h=>h) zd.post I fun a w2 I=>?_;refine goZ [] I fun β3 a w3 I hb3=>?_;exact xj (v:=str (wb n++E x)) I
abbrev reK:List Nat:=[0,3,4,5]
abbrev reV (lv:Value) (hd tl:List UInt8) (i:Nat):Vs:=frm 52 [(0,Sum.inl lv),(3,Sum.inl (str hd)),(4,Sum.inl (str tl)),(5,Sum.inl (Z i))]
theorem wb_zero:wb 0=List.replicate 32 0:=by kernel_rfl
theorem renc_gen{α:Type}{E:α→List UInt8}{cnt:α→Nat}{W0:World}{L:Value→α→Prop}(hc:∀ lv x,L lv x→(∃ ad cap,lv=.slice ad (cnt x) cap)∧cnt x≤(E x).length)(hsub:∀(lv:Value) (x:α) (w:World),L lv x→(E x).length+1000≤100000000000→Below W0.heap.size W0 w→Calls prog 30 #[lv] w fun e w'=>e=.returned (str (E x))∧Below w.heap.size w w'){va:Value}{l:List (Int×Nat×ByteArray×α)}(hl:LAs W0 L va l)(hs:((yd E cnt (32*l.length) l).1++(yd E cnt (32*l.length) l).2).length+1000≤100000000000)(wS:World)(hbS:Below W0.heap.size W0 wS) :
  Calls prog 30 #[va] wS fun e w'=>e=.returned (str ((yd E cnt (32*l.length) l).1++(yd E cnt (32*l.length) l).2))∧Below wS.heap.size wS w':=by
 obtain⟨ad,cap,rfl,hmem⟩:=hl;obtain⟨H,hH⟩:∃ H,32*l.length=H:=⟨_,rfl⟩
 rw[hH]at hs ⊢;rw[List.length_append]at hs;have hlen1:(yd E cnt H l).1.length=32*l.length:=by have:=(zbo (E:=E) (cnt:=cnt) (H:=H) l ([],[])).1;simpa [yd]using this
 have hle2:∀ i,(yd E cnt H (l.take i)).2.length≤(yd E cnt H l).2.length:=fun i=>foldE_le l i
 have hle1:∀ i,i≤l.length→(yd E cnt H (l.take i)).1.length=32*i:=fun i hi=>by
  have:=(zbo (E:=E) (cnt:=cnt) (H:=H) (l.take i) ([],[])).1;rw[List.length_take,Nat.min_eq_left hi]at this;simpa [yd]using this
 refine inQ (J:=Below wS.heap.size wS) (F:=(· < wS.heap.size)) func30 (Below.refl _ _) fun a I=>?_;refine goQ [] (zj wS) I fun β a w1 I hb=>?_
 let St:Nat→Act→World→Prop:=fun k a w'=>∃(i:Nat) (β:Nat→Nat) (u:Nat→Value),k=l.length-i∧i≤l.length ∧
  SI (Below wS.heap.size wS) (· < wS.heap.size) [] β (cfC (zc Tryz.f30) (zl (zg 52 reK) u 0 (reV (.slice ad l.length cap) (yd E cnt H (l.take i)).1 (yd E cnt H (l.take i)).2 i)) [] 0) a w'
 refine lpM (zc Tryz.f30) St l.length ?_ ?_
 ·obtain⟨u,Iu⟩:=I.scr (zc Tryz.f30) (zg 52 reK) (reV (.slice ad l.length cap) [] [] 0) [] 0;exact⟨0,β,u,by omega,Nat.zero_le _,Iu⟩
 rintro k a3 w3 ⟨i,β3,u,rfl,hi,I⟩;obtain⟨hd,hhd⟩:∃ hd,(yd E cnt H (l.take i)).1=hd:=⟨_,rfl⟩
 obtain⟨tl,htl⟩:∃ tl,(yd E cnt H (l.take i)).2=tl:=⟨_,rfl⟩
 have hhl:=hle1 i hi;have htl2:=hle2 i;rw[hhd]at hhl;rw[htl]at htl2;rw[hhd,htl]at I;refine zv (tm:=zl (zg 52 reK) u 0 (reV (.slice ad l.length cap) hd tl i)) (rows:=[]) (nx:=0) ?_;rcases Nat.lt_or_ge i l.length with hil|hil
 ·obtain⟨⟨k1,n1,t1,s1⟩,h1⟩:∃ t,l[i]? = some t:=⟨_,List.getElem?_eq_getElem hil⟩
  obtain⟨ga,offa,lva,rfl,hca,hLa⟩:=hmem i _ h1;simp only[]at hca hLa;obtain⟨⟨adx,capx,rfl⟩,hcE⟩:=hc _ _ hLa;have hfold:=zau (E:=E) (cnt:=cnt) (H:=H) l i h1;have hacc:yd E cnt H (l.take i)=(hd,tl):=by rw[← hhd,← htl]
  rw[hacc]at hfold;have hfl1:=hle1 (i+1) hil;have hfl2:=hle2 (i+1);have hcb:∀ w,Below wS.heap.size wS w→zo w ga (offa+i*7) (zaj k1 n1 t1 (.slice adx (cnt s1) capx)):=fun w hb=>hca.keep ((hbS.trans (hb.mono hbS.size)).block ga hca.lt)
  have hka:∀ w,Below wS.heap.size wS w→(loadVar 3 ⟨ga,offa+i*7+0,none⟩).run prog w=.ok (Z k1) w:=fun w hb=>xk (hcb w hb) 0 rfl 3 underlying3 rfl
  have hna:∀ w,Below wS.heap.size wS w→(loadVar 57 ⟨ga,offa+i*7+1,none⟩).run prog w=.ok (U n1) w:=fun w hb=>load4 (zo.num (hcb w hb))
  have hta:∀ w,Below wS.heap.size wS w→(loadVar 59 ⟨ga,offa+i*7,none⟩).run prog w=.ok (.agg (tx (k1,n1,t1,.slice adx (cnt s1) capx)).toArray) w:=fun w hb=>qe (hcb w hb)
  have hadd:IntKind.i64.wrap ((i:Int)+1)=((i+1:Nat):Int):=by rw[wz (by omega) (by omega)];omega
  have done:∀{hd' tl':List UInt8} {β:Nat→Nat} {a:Act} {w':World} {c:Cf},yd E cnt H (l.take (i+1))=(hd',tl')→SI (Below wS.heap.size wS) (· < wS.heap.size) [] β c a w'→c.dn=some .normal→vf (zg 52 reK) 0 c.tm=vf (zg 52 reK) 0 (reV (.slice (some ⟨ga,offa,none⟩) l.length cap) hd' tl' (i+1))→At prog (Exit.then (fun a' w'=>∃ j,j<l.length-i∧St j a' w') (QK prog (bodyPost prog Tryz.f30 (fun e w'=>e=.returned (str ((yd E cnt H l).1++(yd E cnt H l).2))∧Below wS.heap.size wS w')) (lpK (rn prog ([]:List (Fa prog fun _=>True)) (cfF Tryz.f30 #[.slice (some ⟨ga,offa,none⟩) l.length cap])).1))) c a w':=by
   intro hd' tl' β a w' c he I hdn hdr;obtain⟨u',Iu⟩:=I.scr (zc Tryz.f30) (zg 52 reK) (reV (.slice (some ⟨ga,offa,none⟩) l.length cap) hd' tl' (i+1)) [] 0 hdr;exact xc ⟨l.length-(i+1),by omega,i+1,β,u',rfl,hil,by rw[he];exact Iu⟩ hdn
  by_cases hk1:k1=1
  ·subst hk1;have hst:xm E cnt H (hd,tl) (1,n1,t1,s1)=(hd++wb (H+tl.length),tl++txt t1):=rfl;rw[hst]at hfold;rw[hfold]at hfl1 hfl2;have hl2:(tl++txt t1).length≤(yd E cnt H l).2.length:=hfl2;rw[List.length_append,za6]at hl2;have htail:∀ w,Calls prog 62 #[.agg (tx (1,n1,t1,.slice adx (cnt s1) capx)).toArray] w fun e w'=>e=.returned (str (txt t1))∧Below w.heap.size w w':=fun w=>tail_txt n1 t1.data.toList (by have:t1.data.toList.length=t1.size:=Array.length_toList;omega) _ ⟨_,_,_,rfl⟩ w
   refine goT (T:=Below wS.heap.size wS) [lS underlying48 (ad:=some ⟨ga,offa,none⟩) (n:=l.length) (cap:=cap) rfl,klT i l.length,iA 48 underlying48 (sz:=7) (by kernel_rfl) (g:=ga) (off:=offa) (n:=l.length) (cap:=cap) hil,ldA 3 hka,kt 1 1 true rfl,
    lS underlying48 (ad:=some ⟨ga,offa,none⟩) (n:=l.length) (cap:=cap) rfl,bO .mul 3 (yo (x:=32) (y:=l.length) (z:=H) (by rw[wz (by omega) (by omega)];omega)),lO underlying9 (b:=⟨tl.toArray⟩) (n:=tl.length) (by rw[zn]),kaZ H tl.length (H+tl.length:Nat),kC func61 (zbq (H+tl.length) (by omega)),bO .add 9 (xq hd (wb (H+tl.length)) (by rw[zx];omega)),
    iA 48 underlying48 (sz:=7) (by kernel_rfl) (g:=ga) (off:=offa) (n:=l.length) (cap:=cap) hil,ldA 59 hta,kC func62 htail,bO .add 9 (xq tl (txt t1) (by rw[za6];omega)),bO .add 3 (zw (x:=i) (y:=1) hadd)] (zj wS) (fun _ h=>h) I fun β4 a4 w4 I hb4=>?_
   exact done hfold I (by kernel_rfl) (by kernel_rfl)
  by_cases hk2:k1=2
  ·subst hk2;have hst:xm E cnt H (hd,tl) (2,n1,t1,s1)=(hd++wb (H+tl.length),tl++(wb (cnt s1)++E s1)):=rfl;rw[hst]at hfold;rw[hfold]at hfl1 hfl2;have hl2:(tl++(wb (cnt s1)++E s1)).length≤(yd E cnt H l).2.length:=hfl2;rw[List.length_append,List.length_append,zx]at hl2;have htail:∀ w,Below wS.heap.size wS w→Calls prog 62 #[.agg (tx (2,n1,t1,.slice adx (cnt s1) capx)).toArray] w fun e w'=>e=.returned (str (wb (cnt s1)++E s1))∧Below w.heap.size w w':=fun w hb=>tail_lst hsub n1 t1 hLa (by omega) (by omega) w (hbS.trans (hb.mono hbS.size))
   refine goT (T:=Below wS.heap.size wS) [lS underlying48 (ad:=some ⟨ga,offa,none⟩) (n:=l.length) (cap:=cap) rfl,klT i l.length,iA 48 underlying48 (sz:=7) (by kernel_rfl) (g:=ga) (off:=offa) (n:=l.length) (cap:=cap) hil,ldA 3 hka,kt 2 1 false rfl,kt 2 2 true rfl,
    lS underlying48 (ad:=some ⟨ga,offa,none⟩) (n:=l.length) (cap:=cap) rfl,bO .mul 3 (yo (x:=32) (y:=l.length) (z:=H) (by rw[wz (by omega) (by omega)];omega)),lO underlying9 (b:=⟨tl.toArray⟩) (n:=tl.length) (by rw[zn]),kaZ H tl.length (H+tl.length:Nat),kC func61 (zbq (H+tl.length) (by omega)),bO .add 9 (xq hd (wb (H+tl.length)) (by rw[zx];omega)),
    iA 48 underlying48 (sz:=7) (by kernel_rfl) (g:=ga) (off:=offa) (n:=l.length) (cap:=cap) hil,ldA 59 hta,cA func62 htail,bO .add 9 (xq tl (wb (cnt s1)++E s1) (by rw[List.length_append,zx];omega)),bO .add 3 (zw (x:=i) (y:=1) hadd)] (zj wS) (fun _ h=>h) I fun β4 a4 w4 I hb4=>?_
   exact done hfold I (by kernel_rfl) (by kernel_rfl)
  by_cases hk0:k1=0
  ·subst hk0;have hst:xm E cnt H (hd,tl) (0,n1,t1,s1)=(hd++wb n1,tl):=rfl;rw[hst]at hfold;refine goT (T:=Below wS.heap.size wS) [lS underlying48 (ad:=some ⟨ga,offa,none⟩) (n:=l.length) (cap:=cap) rfl,klT i l.length,iA 48 underlying48 (sz:=7) (by kernel_rfl) (g:=ga) (off:=offa) (n:=l.length) (cap:=cap) hil,ldA 3 hka,kt 0 1 false rfl,kt 0 2 false rfl,kt 0 0 true rfl,
    iA 48 underlying48 (sz:=7) (by kernel_rfl) (g:=ga) (off:=offa) (n:=l.length) (cap:=cap) hil,ldA 57 hna,kC func60 (vr n1),bO .add 9 (xq hd (wb n1) (by rw[zx];omega)),bO .add 3 (zw (x:=i) (y:=1) hadd)] (zj wS) (fun _ h=>h) I fun β4 a4 w4 I hb4=>?_
   exact done hfold I (by kernel_rfl) (by kernel_rfl)
  ·have hst:xm E cnt H (hd,tl) (k1,n1,t1,s1)=(hd++wb 0,tl):=by
    unfold xm;rw[if_neg hk0,if_neg hk1,if_neg hk2,wb_zero]
   rw[hst]at hfold;refine goT (T:=Below wS.heap.size wS) [lS underlying48 (ad:=some ⟨ga,offa,none⟩) (n:=l.length) (cap:=cap) rfl,klT i l.length,iA 48 underlying48 (sz:=7) (by kernel_rfl) (g:=ga) (off:=offa) (n:=l.length) (cap:=cap) hil,ldA 3 hka,kt k1 1 false (decide_eq_false hk1),kt k1 2 false (decide_eq_false hk2),kt k1 0 false (decide_eq_false hk0),
    kC func61 (zbq 0 (by omega)),bO .add 9 (xq hd (wb 0) (by rw[zx];omega)),bO .add 3 (zw (x:=i) (y:=1) hadd)] (zj wS) (fun _ h=>h) I fun β4 a4 w4 I hb4=>?_
   exact done hfold I (by kernel_rfl) (by kernel_rfl)
 ·obtain rfl:i=l.length:=by omega
  rw[List.take_length]at hhd htl;refine goQ [lS underlying48 (ad:=ad) (n:=l.length) (cap:=cap) rfl,bO .lss 3 (zf (x:=l.length) (y:=l.length) (b:=false) (by simp))] (zj wS) I fun β4 a4 w4 I hb4=>?_;refine xg 0 ?_;refine goQ [bO .add 9 (xq hd tl (by omega))] (zj wS) (I.exit _) fun β5 a5 w5 I hb5=>?_;exact zh (v:=str (hd++tl)) I ⟨by rw[hhd,htl],I.hJ⟩
theorem zcq:∀(n:Nat) {W0:World} {v:Value} {l:TL n},LA W0 n v l→(enc n l).length+1000≤100000000000→∀ w,Below W0.heap.size W0 w→Calls prog 30 #[v] w fun e w'=>e=.returned (str (enc n l))∧Below w.heap.size w w'
 | 0,W0,v,l,hl,hs,w,hb=>by
  obtain⟨ad,cap,rfl⟩:=hl;exact renc_gen (α:=Unit) (E:=fun _=>[]) (cnt:=fun _=>0) (W0:=W0) (L:=fun _ _=>False) (fun _ _ h=>h.elim) (fun _ _ _ h=>h.elim) (l:=[]) ⟨ad,cap,rfl,fun i t h=>(by simp at h)⟩ (by decide) w hb
 | n+1,W0,v,l,hl,hs,w,hb=>by
  refine renc_gen (α:=TL n) (E:=enc n) (cnt:=cntL n) (L:=LA W0 n) (fun lv x h=>⟨?_,by have:=enc_cnt n x;omega⟩) (fun lv x w h h2 hb=>zcq n h h2 w hb) (l:=l) hl hs w hb;cases n with
  | zero=>exact h
  | succ n=>obtain⟨ad,cap,hv,_⟩:=h;exact⟨ad,cap,hv⟩
theorem LA.cnt{w:World}:∀{n:Nat} {v:Value} {l:TL n},LA w n v l→∃ ad cap,v=.slice ad (cntL n l) cap
 | 0,v,l,h=>h
 | n+1,v,l,h=>by obtain⟨ad,cap,hv,_⟩:=h;exact⟨ad,cap,hv⟩
end Go.Proofs.YtdeompgdhaomgaaGreatDoor
