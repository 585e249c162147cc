/- Out of Ua. -/
import Derived.Test.YthkpgfbjdabflaaGreatDoorKkKb
namespace Go.Proofs.YthkpgfbjdabflaaGreatDoor
open Go.RowKit Go.Sort Tryz
set_option linter.unusedVariables false
set_option maxRecDepth 100000
set_option maxHeartbeats 4000000
abbrev Spt:Type:=List (Nat×Option Value)
def xy (sp:Spt) (j:Nat):Option (Option Value):=(sp.find? fun p=>p.1 == j).map (·.2)
theorem spec_mem{sp:Spt}{j:Nat}{x:Option Value}(h:xy sp j=some x):(j,x)∈sp:=by
 unfold xy at h;rw[Option.map_eq_some_iff]at h;obtain⟨p,h1,h2⟩:=h;have h3:=List.find?_some h1;have h4:=List.mem_of_find?_eq_some h1;simp only[beq_iff_eq]at h3;obtain⟨p1,p2⟩:=p;simp only at h2 h3;subst h2 h3;exact h4
theorem mem_spec{sp:Spt}{p:Nat×Option Value}(h:p∈sp):∃ x,xy sp p.1=some x:=by
 unfold xy;cases hq:sp.find? fun q=>q.1 == p.1 with
 | none=>
  have:=List.find?_eq_none.1 hq p h;simp at this
 | some q=>exact⟨q.2,rfl⟩
section
variable (P:Program) (T:World→Prop) (fo:Nat→Nat→Option Nat) (io:Nat→Int→Option Nat)
def goS (sp:Spt) (ops:Array Oper) (tm:Vs) (rows:Rows):List Oper→Nat→Vs→List (Fa P T)→Option (Vs×List (Fa P T)×List (Value×Value))
 | [],_,vals,_=>some (vals,[],[])
 | o::os,k,vals,fs=>match xy sp k with
  | some x=>(goS sp ops tm rows os (k+1) (vals++[x.map Sum.inl]) fs).map fun r=>(r.1,Sum.inl ()::r.2.1,r.2.2)
  | none=>match qop P T fo io ops tm rows vals k o (Sum.inl ())with
   | some (s,e)=>(goS sp ops tm rows os (k+1) (vals++[s]) fs).map fun r=>(r.1,Sum.inl ()::r.2.1,e++r.2.2)
   | none=>match fs with
    | []=>none
    | f::fs'=>match qop P T fo io ops tm rows vals k o f with
     | some (s,e)=>(goS sp ops tm rows os (k+1) (vals++[s]) fs').map fun r=>(r.1,f::r.2.1,e++r.2.2)
     | none=>none
end
def tmS (ops:Array Oper) (sp:Spt) (tm vals:Vs) (vs:Nat→Value):Vs:=(List.range tm.length).map fun t=>match wr ops t with
 | some j=>(match xy sp j with
  | some _=>some (Sum.inl (vs j))
  | none=>(vals[j]?).join)
 | none=>(tm[t]?).join
theorem ids_tmS{ops:Array Oper}{sp:Spt}{tm vals:Vs}{vs:Nat→Value}{nx:Nat}(h:qs (tmS ops sp tm vals fun _=>undef) nx=true):qs (tmS ops sp tm vals vs) nx=true:=by
 unfold qs tmS at h ⊢;rw[List.all_map,List.all_eq_true]at h ⊢;intro t ht;have:=h t ht;simp only[Function.comp]at this ⊢;cases hw:wr ops t with
 | none=>rw[hw]at this;exact this
 | some j=>
  rw[hw]at this;simp only at this ⊢;cases hs:xy sp j with
  | none=>rw[hs]at this;exact this
  | some x=>rfl
section
variable {P:Program} {T:World→Prop} {fo:Nat→Nat→Option Nat} {io:Nat→Int→Option Nat} {ze:Nat→Option (Array Value)} {ops:Array Oper} {tm:Vs} {rows:Rows} {sp:Spt}
theorem goS_spec:∀{os:List Oper} {k:Nat} {v0 vals:Vs} {fs us:List (Fa P T)} {e:List (Value×Value)},v0.length=k→goS P T fo io sp ops tm rows os k v0 fs=some (vals,us,e)→(∀ p∈e,p.1=p.2) →
  vals.length=k+os.length∧vals.take k=v0∧∀ j o,os[j]? = some o→(∀ x,xy sp (k+j)=some x→vals[k+j]? = some (x.map Sum.inl))∧(xy sp (k+j)=none→∃ f s e',qop P T fo io ops tm rows (vals.take (k+j)) (k+j) o f=some (s,e')∧(∀ p∈e',p.1=p.2)∧vals[k+j]? = some s)
 | [],k,v0,vals,fs,us,e,hk,h,he=>by
  simp only[goS,Option.some.injEq,Prod.mk.injEq]at h;obtain⟨rfl,rfl,rfl⟩:=h;exact⟨by simp[hk],by rw[← hk,List.take_length],fun j o ho=>by simp at ho⟩
 | o::os,k,v0,vals,fs,us,e,hk,h,he=>by
  have main:∀{s:Option SV} {e1:List (Value×Value)} {fs' us':List (Fa P T)} {e2:List (Value×Value)},((∀ x,xy sp k=some x→s=x.map Sum.inl)∧(xy sp k=none→∃ f,qop P T fo io ops tm rows v0 k o f=some (s,e1)))→goS P T fo io sp ops tm rows os (k+1) (v0++[s]) fs'=some (vals,us',e2)→e=e1++e2 →
    vals.length=k+(o::os).length∧vals.take k=v0∧∀ j o',(o::os)[j]? = some o'→(∀ x,xy sp (k+j)=some x→vals[k+j]? = some (x.map Sum.inl))∧(xy sp (k+j)=none→∃ f s e',qop P T fo io ops tm rows (vals.take (k+j)) (k+j) o' f=some (s,e')∧(∀ p∈e',p.1=p.2)∧vals[k+j]? = some s):=by
   intro s e1 fs' us' e2 hq hg hee;subst hee;obtain⟨h1,h2,h3⟩:=goS_spec (by simp[hk]) hg fun p hp=>he p (List.mem_append_right _ hp)
   have ht:vals.take k=v0:=by
    have:=congrArg (List.take k) h2;rw[List.take_take,Nat.min_eq_left (Nat.le_succ k),List.take_append_of_le_length (by omega),← hk,List.take_length]at this;rw[← hk];exact this
   have hvk:vals[k]? = some s:=by
    have:=congrArg (·[k]?) h2;simp only[List.getElem?_take,Nat.lt_succ_self,if_true]at this;rw[this];simp[hk]
   refine⟨by simp only[List.length_cons];omega,ht,fun j o' ho=>?_⟩;cases j with
   | zero=>
    simp only[List.getElem?_cons_zero,Option.some.injEq]at ho;subst ho;rw[Nat.add_zero];refine⟨fun x hx=>by rw[hvk,hq.1 x hx],fun hn=>?_⟩;obtain⟨f,hf⟩:=hq.2 hn;exact⟨f,s,e1,by rw[ht];exact hf,fun p hp=>he p (List.mem_append_left _ hp),hvk⟩
   | succ j=>
    have:=h3 j o' (by simpa using ho);rw[show k+(j+1)=k+1+j by omega];exact this
  simp only[goS]at h;split at h
  ·next x hx=>
   simp only[Option.map_eq_some_iff,Prod.mk.injEq]at h;obtain⟨⟨v,u,e2⟩,hg,rfl,rfl,rfl⟩:=h;exact main (e1:=[]) ⟨fun y hy=>(by rw[hx]at hy;cases hy;rfl),fun hn=>(by rw[hx]at hn;cases hn)⟩ hg rfl
  ·next hx=>
   split at h
   ·next s e1 hq=>
    simp only[Option.map_eq_some_iff,Prod.mk.injEq]at h;obtain⟨⟨v,u,e2⟩,hg,rfl,rfl,rfl⟩:=h;exact main ⟨fun y hy=>(by rw[hx]at hy;cases hy),fun _=>⟨_,hq⟩⟩ hg rfl
   ·split at h
    ·cases h
    ·next f fs'=>
     split at h
     ·next s e1 hq=>
      simp only[Option.map_eq_some_iff,Prod.mk.injEq]at h;obtain⟨⟨v,u,e2⟩,hg,rfl,rfl,rfl⟩:=h;exact main ⟨fun y hy=>(by rw[hx]at hy;cases hy),fun _=>⟨_,hq⟩⟩ hg rfl
     ·cases h
structure DS (ops:Array Oper) (sp:Spt) (β:Nat→Nat) (vals:Vs) (V:Nat→Value→World→Prop) (w:World) (za:Array Bool) (vs:Nat→Value) (w':World):Prop where
 bw:Below w.heap.size w w'
 wt:∀ j k,yp ops k j=true→za.getD k false=true→za.getD j false=true
 rk:∀ j,za.getD j false=true→xy sp j=none→vs j=upO β (vals[j]?).join
 sv:∀ j x,za.getD j false=true→xy sp j=some x→V j (vs j) w'∧∀ u,x=some u→vs j=u
theorem DS.val{β:Nat→Nat}{vals:Vs}{V:Nat→Value→World→Prop}{w w':World}{za:Array Bool}{vs:Nat→Value}(D:DS ops sp β vals V w za vs w')(hs:∀ j x,xy sp j=some x→j<ops.size→vals[j]? = some (x.map Sum.inl)){j:Nat}(hj:j<ops.size)(hl:za.getD j false=true){s:SV}(h:(vals[j]?).join=some s):vs j=up β s:=by
 cases hq:xy sp j with
 | none=>rw[D.rk j hl hq,h];rfl
 | some x=>
  have h1:=hs j x hq hj;rw[h1]at h;cases x with
  | none=>cases h
  | some u=>
   simp only[Option.map_some,Option.join_some,Option.some.injEq]at h;subst h;exact(D.sv j _ hl hq).2 u rfl
theorem evF_ok{β:Nat→Nat}{vals:Vs}{V:Nat→Value→World→Prop}{w w':World}{a a':Act}{za:Array Bool}{vs:Nat→Value}(D:DS ops sp β vals V w za vs w')(hsv:∀ j x,xy sp j=some x→j<ops.size→vals[j]? = some (x.map Sum.inl))(hF:Frm ops vs a za a')(ha:a.tmps=(tm.map (upO β)).toArray){i:Nat}(hs:za.size=ops.size)(hi:i∈Region.ready .any ops za){x:Operand}{s:SV}(h:evS ops tm (vals.take i) i x=some s):a'.eval x=up β s:=by
 have hun:=ya hi hs;cases x with
 | const v=>simp only[evS,Option.some.injEq]at h;subst h;rfl
 | tmp t=>
  simp only[evS]at h;cases hw:wr ops t with
  | none=>rw[hw]at h;rw[hF.old hw];exact zce ha h
  | some j=>
   rw[hw]at h;simp only[]at h;by_cases hn:newB ops tm.length i t j=true
   ·rw[if_pos hn]at h;simp only[newB,Bool.and_eq_true,beq_iff_eq,decide_eq_true_eq]at hn;have hl:=zg hn.1.2 hi;have h2:=join_some h;rw[List.getElem?_take]at h2;split at h2
    ·next hlt=>
     rw[hF.new hw (by rw[ha];simpa using hn.2) hl];exact D.val hsv (wr_dst hw).2 hl (by rw[h2];rfl)
    ·cases h2
   ·rw[if_neg hn]at h;by_cases hq:yp ops j i=true
    ·rw[if_pos hq]at h;have hnl:¬ za.getD j false=true:=fun hl=>hun (D.wt i j hq hl)
     rw[← zce ha h];show a'.tmps.getD t undef=a.tmps.getD t undef;rw[Array.getD_eq_getD_getElem?,Array.getD_eq_getD_getElem?];by_cases ht:t<a.tmps.size
     ·rw[hF.2.2 t ht,hw];simp only[if_neg hnl]
     ·have h1:a.tmps.size≤t:=Nat.le_of_not_lt ht;have h2:a'.tmps.size≤t:=by rw[hF.2.1];exact h1
      rw[Array.getElem?_eq_none h2,Array.getElem?_eq_none h1]
    ·rw[if_neg hq]at h;cases h
 | global g=>simp[evS]at h
 | func f=>simp[evS]at h
theorem wantS_ok{β:Nat→Nat}{vals:Vs}{V:Nat→Value→World→Prop}{w w':World}{a a':Act}{za:Array Bool}{vs:Nat→Value}(D:DS ops sp β vals V w za vs w')(hsv:∀ j x,xy sp j=some x→j<ops.size→vals[j]? = some (x.map Sum.inl))(hF:Frm ops vs a za a'){i:Nat}{o:Oper}(hB:zby ops=true)(hdl:∀ t j,wr ops t=some j→t<a.tmps.size)(hi:i∈Region.ready .any ops za){b:Bool}(hgs:∀ j b,o.guard=some (j,b)→xy sp j=none)(h:wantD ops (vals.take i) i o=some b):Region.wanted o (yielded ops a'.tmps)=b:=by
 unfold wantD at h;unfold Region.wanted;split at h
 ·next hg=>rw[hg];cases h;rfl
 ·next j b' hg=>
  rw[hg];simp only[];split at h
  ·next hj=>
   obtain⟨hw,hd⟩:=hj;obtain⟨t,ht⟩:=Option.isSome_iff_exists.1 hd;obtain⟨oj,hoj,hojd⟩:∃ oj,ops[j]? = some oj∧oj.dst=some t:=by
    cases hq:ops[j]? with
    | none=>rw[hq]at ht;cases ht
    | some oj=>rw[hq]at ht;exact⟨oj,rfl,ht⟩
   have hwr:=vy hB hoj t hojd;have hl:=zg hw hi;have ey:∀ s,(vals.take i)[j]? = some s→yielded ops a'.tmps j=(match upO β s with | .bool q=>some q | _=>none):=by
    intro s hs;rw[List.getElem?_take]at hs;split at hs
    ·next hlt=>
     have h3:a'.tmps[t]? = some (vs j):=by
      rw[hF.2.2 t (hdl t j hwr),hwr];simp only[if_pos hl]
     rw[D.rk j hl (hgs j b' hg),hs]at h3;unfold yielded;rw[ht];simp only[Option.bind_some];rw[h3];simp only[Option.join_some];cases upO β s<;>rfl
    ·cases hs
   split at h
   ·next q hq=>rw[ey _ hq];cases h;cases q<;>cases b'<;>rfl
   ·next hq=>rw[ey _ hq];cases h;cases b'<;>rfl
   ·cases h
  ·cases h
def gsB (ops:Array Oper) (sp:Spt):Bool:=ops.all fun o=>match o.guard with | some (j,_)=>(xy sp j).isNone | none=>true
end
section
variable {P:Program} {J:World→Prop} {F:Nat→Prop} {ds:List Deferred} {β:Nat→Nat} {c:Cf} {a:Act} {w:World} {Q:Exit→Act→World→Prop}
abbrev yw (c:Cf):Array Oper:=((drQ c).map (·.1)).getD #[]
abbrev ksD (c:Cf):List Ki:=((drQ c).map (·.2)).getD []
def dsX (P:Program) {T:World→Prop} (sp:Spt) (fs:List (Fa P T)) (c:Cf):Option (Vs×List (Value×Value)):=
 match drQ c with
 | some (ops,ks)=>match goS P T (foV P) (ioV P) sp ops c.tm c.rows ops.toList 0 [] fs with
  | some (vals,us,e)=>if(ka ops&&zby ops&&gsB ops sp&&dstB ops c.tm.length&&qs (tmS ops sp c.tm vals fun _=>undef) c.nx)=true then some (vals,e)else none
  | none=>none
 | none=>none
abbrev valsD (P:Program) {T:World→Prop} (sp:Spt) (fs:List (Fa P T)) (c:Cf):Vs:=((dsX P sp fs c).map (·.1)).getD []
abbrev dsC (P:Program) {T:World→Prop} (sp:Spt) (fs:List (Fa P T)) (c:Cf) (vs:Nat→Value):Cf:={ ops:=#[],rest:=[],ks:=ksD c,tm:=tmS (yw c) sp c.tm (valsD P sp fs c) vs,rows:=c.rows,nx:=c.nx,dn:=none }
end
section
variable {P:Program} {ops:Array Oper} {Q:Exit→Act→World→Prop} {K:Act→World→Prop} {o:Oper} {a:Act} {w:World}
theorem bslG{t:TypeId}{n:Nat}{ps:Array (Nat×Operand)}{v:Value}{w':World}(hop:o.op=.buildSlice t n ps)(hg:o.guard=none)(h:(Instr.buildSlice t n (ps.map fun(i,x)=>(i,a.eval x))).run P w=.ok v w')(hK:K (a.put o.dst v) w'):wpG ops o P a w K Q:=by
 refine zi hg (xn (v:=v) (w':=w') ?_ hK);unfold execOp;simp only[hop,Sem.run_bind,h,Result.andThen_ok,Sem.run_pure]
end
theorem ve{c:Cf}{i:Nat}{o:Oper}{x:Op}{d:Option Tmp}(ho:(yw c)[i]? = some o)(h:((yw c)[i]?).map (fun o=>(o.op,o.dst,o.guard))=some (x,d,none)):o.op=x∧o.dst=d∧o.guard=none:=by
 rw[ho]at h;simp only[Option.map_some,Option.some.injEq,Prod.mk.injEq]at h;exact h
end Go.Proofs.YthkpgfbjdabflaaGreatDoor
