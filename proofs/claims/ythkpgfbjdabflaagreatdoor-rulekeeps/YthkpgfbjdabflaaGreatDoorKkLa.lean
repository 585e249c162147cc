/- Laid one behind the other: La, Ri, Rv, Rz, Rg. -/
import Derived.Deep.Quiet
import Derived.Lib.QuietBelow
import Derived.Test.YthkpgfbjdabflaaGreatDoorKkNum
namespace Go.Proofs.YthkpgfbjdabflaaGreatDoor
open Go.RowKit Go.Sort Tryz
set_option linter.unusedVariables false
set_option maxRecDepth 100000
set_option maxHeartbeats 4000000
section
variable {P:Program} {ops:Array Oper} {md:Region.Mode} {C:World→Prop}
def anyLast (P:Program) (md:Region.Mode) (ops:Array Oper) (C:World→Prop) (L:Nat) (F:Act→Prop):Nat→Array Bool→Act→Prop
 | 0,_,_=>False
 | fuel+1,za,a=>Region.ready md ops za≠[]∧∀ i∈Region.ready md ops za,(i=L→F a)∧(i≠L→qOp P ops C i (anyLast P md ops C L F fuel (za.setIfInBounds i true)) a)
theorem any_of_last{L:Nat}{F:Act→Prop}{Q':Exit→Act→World→Prop}(hF:∀(fuel:Nat) (za:Array Bool) (a:Act) (w:World),C w→L∈Region.ready md ops za→F a→wpOp P ops Q' L (wpAny P md ops Q' fuel (za.setIfInBounds L true)) a w) :
  ∀(fuel:Nat) (za:Array Bool) (a:Act) (w:World),C w→anyLast P md ops C L F fuel za a→wpAny P md ops Q' fuel za a w
 | 0,_,_,_,_,h=>h.elim
 | fuel+1,za,a,w,hw,h=>by
  refine⟨fun h0=>absurd h0 h.1,fun i hi=>?_⟩;by_cases hL:i=L
  ·subst hL;exact hF fuel za a w hw hi ((h.2 i hi).1 rfl)
  ·exact wpOp_of_qOp hw (fun a' w' hw' h'=>any_of_last hF fuel _ a' w' hw' h') ((h.2 i hi).2 hL)
theorem last_first{L:Nat}{F:Act→Prop}{i:Nat}{oi:Oper}{v:Value}(hi:ops[i]? = some oi)(hiL:i≠L)(hwait:∀ oL,ops[L]? = some oL→∃ e∈oL.after,Region.binds md e=true∧e.on=i)(hsel:∀(j:Nat) (o:Oper) cs b,ops[j]? = some o→o.op≠.select cs b) :
  ∀(fuel:Nat) (za:Array Bool) (a:Act),
   (∀ j oj,ops[j]? = some oj→j≠i→za.getD j true=false→(∀ e∈oj.after,Region.binds md e=true→e.on≠i)→oi.apart ops oj=true) →
   i∈Region.ready md ops za→YieldsIn P ops C oi v a →
   anyLast P md ops C L F fuel (za.setIfInBounds i true) (a.put oi.dst v)→anyLast P md ops C L F (fuel+1) za a:=by
 intro fuel
 induction fuel with
 | zero=>intro za a _ _ _ H;exact H.elim
 | succ fuel ih=>
  intro za a hfree hr hy H;refine⟨fun h=>(by rw[h]at hr;cases hr),fun j hj=>⟨fun hjL=>?_,fun hjL=>?_⟩⟩
  ·subst hjL;obtain⟨_,oj,hoj,hall⟩:=mem_ready.1 hj;obtain⟨e,he,hb,hon⟩:=hwait oj hoj;have h1:=hall e he hb;have h0:=(mem_ready.1 hr).1;rw[hon]at h1;rcases Nat.lt_or_ge i za.size with h'|h'
   ·simp[h']at h0 h1;rw[h0]at h1;cases h1
   ·simp[Array.getElem?_eq_none h']at h1
  ·by_cases hji:j=i
   ·subst hji;exact hy.qOp hi H
   ·have h1:=(H.2 j (ready_mono hj hji)).2 hjL;obtain⟨hjun,oj,hoj,hall⟩:=mem_ready.1 hj;have hnot:∀ e∈oj.after,Region.binds md e=true→e.on≠i:=fun e he hb heq=>by
     have h1:=hall e he hb;have h0:=(mem_ready.1 hr).1;rw[heq]at h1;rcases Nat.lt_or_ge i za.size with h'|h'
     ·simp[h']at h0 h1;rw[h0]at h1;cases h1
     ·simp[Array.getElem?_eq_none h']at h1
    have h2:=qOp_put hoj (hfree j oj hoj hji hjun hnot) (fun cs b=>hsel i oi cs b hi) (fun cs b=>hsel j oj cs b hoj) hy h1;have hfree':∀ k ok,ops[k]? = some ok→k≠i→(za.setIfInBounds j true).getD k true=false →
      (∀ e∈ok.after,Region.binds md e=true→e.on≠i)→oi.apart ops ok=true:=fun k ok hk hki hun hno=>by
     refine hfree k ok hk hki ?_ hno;by_cases hjk:j=k
     ·subst hjk;exact hjun
     ·rw[getD_set_ne true hjk]at hun;exact hun
    refine qOp_mono (fun a' h3=>ih (za.setIfInBounds j true) a' hfree' (ready_mono hr (Ne.symm hji)) h3.1 ?_) h2;rw[Array.setIfInBounds_comm _ _ hji];exact h3.2
def lexTo (md:Region.Mode) (ops:Array Oper):Nat→Nat→Array Bool→Bool
 | 0,k,za=>Region.ready md ops za == [k]
 | fuel+1,k,za=>(Region.ready md ops za).contains k&&Region.free md ops za k&&lexTo md ops fuel (k+1) (za.setIfInBounds k true)
def zdg (md:Region.Mode) (ops:Array Oper) (L:Nat):Bool:=
 match ops[L]? with
 | some oL=>(List.range L).all fun i=>oL.after.any fun e=>Region.binds md e&&e.on == i
 | none=>false
theorem zer{L:Nat}(h:zdg md ops L=true)(i:Nat)(hi:i<L):∀ oL,ops[L]? = some oL→∃ e∈oL.after,Region.binds md e=true∧e.on=i:=by
 intro oL hL;simp only[zdg,hL,List.all_eq_true,List.mem_range]at h;have h1:=h i hi;obtain⟨n,hn,hb⟩:=Array.any_eq_true.1 h1;have he:=Array.getElem_mem hn;generalize oL.after[n]=e at *;simp only[Bool.and_eq_true,beq_iff_eq]at hb;exact⟨e,he,hb.1,hb.2⟩
theorem last_lex{L:Nat}{F:Act→Prop}(hs:Region.noSelect ops=true)(hw:zdg md ops L=true):∀(l:List Oper) (k:Nat) (za:Array Bool) (a:Act),k+l.length=L→(∀ j,j<l.length→l[j]? = ops[k+j]?) →
  lexTo md ops l.length k za=true→wpQuiet P ops C F l a→anyLast P md ops C L F (l.length+1) za a
 | [],k,za,a,hk,_,hB,h=>by
  have hr:Region.ready md ops za=[k]:=by simpa [lexTo]using hB
  have hk':k=L:=by simpa using hk
  refine⟨by rw[hr];simp,fun i hi=>⟨fun _=>h,fun hne=>?_⟩⟩;rw[hr]at hi;simp at hi;exact absurd (hi.trans hk') hne
 | o::l,k,za,a,hk,hl,hB,h=>by
  have h0:ops[k]? = some o:=by simpa using(hl 0 (by simp)).symm
  simp only[List.length_cons,lexTo,Bool.and_eq_true]at hB;obtain⟨⟨hr,hf⟩,hB'⟩:=hB;have hst:qOp P ops C k (wpQuiet P ops C F l) a:=by unfold qOp;simp only[h0];exact h
  obtain⟨v,hy,hK⟩:=yieldsIn_of_qOp h0 hst;have hkL:k<L:=by simp at hk;omega
  exact last_first h0 (Nat.ne_of_lt hkL) (zer hw k hkL) (Region.noSelect_spec hs) (l.length+1) za a (Region.free_spec h0 hf) (by simpa using hr) hy
   (last_lex hs hw l (k+1) _ _ (by simp at hk;omega) (fun j hj=>by have:=hl (j+1) (by simpa using hj);simpa [Nat.add_assoc,Nat.add_comm 1 j]using this) hB' hK)
theorem any_done{Q':Exit→Act→World→Prop}{za:Array Bool}{a:Act}{w:World}(hr:Region.ready md ops za=[])(h:Q' .normal a w):∀ fuel,wpAny P md ops Q' fuel za a w
 | 0=>⟨hr,h⟩
 | _+1=>⟨fun _=>h,by rw[hr];simp⟩
def lastB (md:Region.Mode) (ops:Array Oper):Bool:=
 Region.noSelect ops&&zdg md ops (ops.size-1)&&lexTo md ops (ops.size-1) 0 (Array.replicate ops.size false)
theorem ready_behind{L:Nat}(hw:zdg md ops L=true)(hL:ops.size=L+1){za:Array Bool}(h:L∈Region.ready md ops za):Region.ready md ops (za.setIfInBounds L true)=[]:=by
 rw[List.eq_nil_iff_forall_not_mem];intro j hj;obtain⟨hun,oj,hoj,_⟩:=mem_ready.1 hj;obtain⟨_,oL,hoL,hall⟩:=mem_ready.1 h;have hjs:j<ops.size:=(Array.getElem?_eq_some_iff.1 hoj).1;by_cases hjL:j=L
 ·subst hjL;rcases Nat.lt_or_ge j za.size with h'|h'
  ·simp[h']at hun
  ·simp[Array.setIfInBounds,Nat.not_lt.2 h']at hun
 ·obtain⟨e,he,hb,hon⟩:=zer hw j (by omega) oL hoL;have h1:=hall e he hb;rw[hon]at h1;rw[getD_set_ne true (Ne.symm hjL)]at hun;rcases Nat.lt_or_ge j za.size with h'|h'
  ·simp[h']at hun h1;rw[hun]at h1;cases h1
  ·simp[Array.getElem?_eq_none h']at h1
theorem wp_region_last{id:Nat}{Q:Exit→Act→World→Prop}{a:Act}{w:World}{ol:List Oper}(hm:P.follows .mixedOrders=true)(hB:lastB .any ol.toArray=true)(hne:ol≠[])(hC:C { w with drawn:=w.drawn+1 })(h:wpQuiet P ol.toArray C (fun a'=>∀ w',C w'→wpOp P ol.toArray Q (ol.length-1) (fun a'' w''=>Q .normal a'' w'') a' w') ol.dropLast a):(Code.region id ol.toArray true).wp P Q a w:=by
 simp only[lastB,Bool.and_eq_true,List.size_toArray]at hB;obtain⟨⟨hs,hw⟩,hx⟩:=hB;have hlen:ol.length=(ol.length-1)+1:=by
  cases ol with
  | nil=>exact absurd rfl hne
  | cons _ _=>simp
 refine wp_region_any hm (any_of_last (C:=C) (L:=ol.length-1) (F:=fun a'=>∀ w',C w'→wpOp P ol.toArray Q (ol.length-1) (fun a'' w''=>Q .normal a'' w'') a' w') ?_ _ _ _ _ hC ?_)
 ·intro fuel za a' w' hw' hr hF;exact wpOp_mono (fun a'' w'' hq=>any_done (ready_behind hw (by simpa using hlen) hr) hq fuel) (hF w' hw')
 ·have:=last_lex (P:=P) (C:=C) (md:=.any) (L:=ol.length-1) (F:=fun a'=>∀ w',C w'→wpOp P ol.toArray Q (ol.length-1) (fun a'' w''=>Q .normal a'' w'') a' w') hs hw ol.dropLast 0 (Array.replicate ol.length false) a (by simp) (by
   intro j hj;rw[List.length_dropLast]at hj;simp[hj]) (by simpa using hx) h
  rw[List.length_dropLast,← hlen]at this;simpa using this
theorem zbm{Q:Exit→Act→World→Prop}{i:Nat}{o:Oper}{K:Act→World→Prop}{a:Act}{w:World}(ho:ops[i]? = some o)(hg:o.guard=none)(h:o.wp P a w K Q):wpOp P ops Q i K a w:=by
 unfold wpOp;simp only[ho,Region.wanted,hg,if_true];exact .inl h
theorem qh{id:Nat}{Q:Exit→Act→World→Prop}{a:Act}{w:World}{ol:List Oper}(hm:P.follows .mixedOrders=true)(hB:lastB .any ol.toArray=true)(hne:ol≠[])(h:wpQuiet P ol.toArray (fun w'=>∃ p:Regrown,w'=grow (redrawn w p.d) p.os) (fun a'=>∀ w',(∃ p:Regrown,w'=grow (redrawn w p.d) p.os)→wpOp P ol.toArray Q (ol.length-1) (fun a'' w''=>Q .normal a'' w'') a' w') ol.dropLast a):(Code.region id ol.toArray true).wp P Q a w:=
 wp_region_last hm hB hne ⟨⟨w.drawn+1,#[]⟩,by rw[grow_empty];rfl⟩ h
end
section
variable {P:Program} {ops:Array Oper} {Q:Exit→Act→World→Prop}
theorem zcn:∀(l:List Bool) (i:Nat),l[i]? = some false→(l.set i true).count false+1=l.count false
 | [],i,h=>by simp at h
 | b::l,0,h=>by simp at h;subst h;simp
 | b::l,i+1,h=>by
  have:=zcn l i (by simpa using h);simp only[List.set_cons_succ,List.count_cons];omega
theorem any_inv(I:Array Bool→Act→World→Prop)(hstep:∀ za a w i,za.size=ops.size→I za a w→i∈Region.ready .any ops za→wpOp P ops Q i (fun a' w'=>I (za.setIfInBounds i true) a' w') a w)(hend:∀ za a w,za.size=ops.size→I za a w→Region.ready .any ops za=[]→Q .normal a w) :
  ∀(fuel:Nat) (za:Array Bool) (a:Act) (w:World),za.size=ops.size→za.toList.count false≤fuel→I za a w→wpAny P .any ops Q fuel za a w
 | 0,za,a,w,hs,hc,hI=>by
  have hr:Region.ready .any ops za=[]:=by
   rw[List.eq_nil_iff_forall_not_mem];intro j hj;obtain⟨hun,o,ho,_⟩:=mem_ready.1 hj;have hjs:j<za.size:=by have:=(Array.getElem?_eq_some_iff.1 ho).1;omega
   have h1:za[j]? = some false:=by
    rw[Array.getElem?_eq_getElem hjs];simp[Array.getD,hjs]at hun;rw[hun]
   have h2:=zcn za.toList j (by simpa using h1);omega
  exact⟨hr,hend za a w hs hI hr⟩
 | fuel+1,za,a,w,hs,hc,hI=>by
  refine⟨fun hr=>hend za a w hs hI hr,fun i hi=>?_⟩;refine wpOp_mono (fun a' w' h'=>any_inv I hstep hend fuel _ a' w' (by simpa using hs) ?_ h') (hstep za a w i hs hI hi);obtain⟨hun,o,ho,_⟩:=mem_ready.1 hi;have hjs:i<za.size:=by have:=(Array.getElem?_eq_some_iff.1 ho).1;omega
  have h1:za[i]? = some false:=by
   rw[Array.getElem?_eq_getElem hjs];simp[Array.getD,hjs]at hun;rw[hun]
  have h2:=zcn za.toList i (by simpa using h1);rw[Array.toList_setIfInBounds];omega
theorem zet{id:Nat}{a:Act}{w:World}(hm:P.follows .mixedOrders=true)(I:Array Bool→Act→World→Prop)(h0:I (Array.replicate ops.size false) a { w with drawn:=w.drawn+1 })(hstep:∀ za a w i,za.size=ops.size→I za a w→i∈Region.ready .any ops za→wpOp P ops Q i (fun a' w'=>I (za.setIfInBounds i true) a' w') a w)(hend:∀ za a w,za.size=ops.size→I za a w→Region.ready .any ops za=[]→Q .normal a w):(Code.region id ops true).wp P Q a w:=
 wp_region_any hm (any_inv I hstep hend _ _ _ _ (by simp) (by simp) h0)
def backB (ops:Array Oper):Bool:=(List.range ops.size).all fun i=>match ops[i]? with | some o=>o.after.all (fun e=>decide (e.on<i)) | none=>true
theorem all_done(hb:backB ops=true){za:Array Bool}(hs:za.size=ops.size)(hr:Region.ready .any ops za=[]):∀ i,i<ops.size→za.getD i false=true:=by
 intro i
 induction i using Nat.strongRecOn with
 | _ i ih=>
  intro hi;by_cases h:za.getD i false=true
  ·exact h
  ·exfalso;have ho:ops[i]? = some ops[i]:=Array.getElem?_eq_getElem hi;have hmem:i∈Region.ready .any ops za:=by
    refine mem_ready.2 ⟨?_,ops[i],ho,fun e he hbd=>?_⟩
    ·have hi':i<za.size:=by omega
     simp[Array.getD,hi']at h ⊢;exact h
    ·have h1:=(List.all_eq_true.1 hb) i (by simpa using hi);simp only[ho]at h1;have h2:=(Array.all_eq_true_iff_forall_mem.1 h1) e he;have h3:e.on<i:=by simpa using h2
     exact ih e.on h3 (by omega)
   rw[hr]at hmem;cases hmem
def yp (ops:Array Oper) (i j:Nat):Bool:=match ops[i]? with | some o=>o.after.any (fun e=>Region.binds .any e&&e.on == j) | none=>false
theorem zg{i j:Nat}(h:yp ops i j=true){za:Array Bool}(hi:i∈Region.ready .any ops za):za.getD j false=true:=by
 obtain⟨_,o,ho,hall⟩:=mem_ready.1 hi;simp only[yp,ho]at h;obtain⟨n,hn,hb⟩:=Array.any_eq_true.1 h;have he:=Array.getElem_mem hn;generalize o.after[n]=e at *;simp only[Bool.and_eq_true,beq_iff_eq]at hb;have:=hall e he hb.1;rw[hb.2]at this;exact this
theorem yb{za:Array Bool}{i j:Nat}(h:(za.setIfInBounds i true).getD j false=true):j=i∨za.getD j false=true:=by
 by_cases hij:i=j
 ·exact .inl hij.symm
 ·right;rwa [getD_set_ne false hij]at h
theorem zc{za:Array Bool}{i j:Nat}(h:za.getD j false=true):(za.setIfInBounds i true).getD j false=true:=by
 by_cases hij:i=j
 ·subst hij;have hl:i<za.size:=by
   rcases Nat.lt_or_ge i za.size with h'|h'
   ·exact h'
   ·simp[Array.getD,Nat.not_lt.2 h']at h
  simp[Array.getD,hl]
 ·rw[getD_set_ne false hij];exact h
theorem ya{za:Array Bool}{i:Nat}(hi:i∈Region.ready .any ops za)(hs:za.size=ops.size):za.getD i false=true→False:=by
 intro h;obtain⟨hun,o,ho,_⟩:=mem_ready.1 hi;have hjs:i<za.size:=by have:=(Array.getElem?_eq_some_iff.1 ho).1;omega
 simp[Array.getD,hjs]at hun h;rw[hun]at h;cases h
end
section
variable {P:Program} {ops:Array Oper} {Q:Exit→Act→World→Prop}
def wr (ops:Array Oper) (t:Nat):Option Nat:=(List.range ops.size).find? fun i=>match ops[i]? with | some o=>o.dst == some t | none=>false
def onceB (ops:Array Oper):Bool:=(List.range ops.size).all fun i=>match ops[i]? with | some o=>o.guard.isNone&&(match o.dst with | some t=>wr ops t == some i | none=>true) | none=>true
theorem once_spec(h:onceB ops=true){i:Nat}{o:Oper}(ho:ops[i]? = some o):o.guard=none∧∀ t,o.dst=some t→wr ops t=some i:=by
 have hi:i<ops.size:=(Array.getElem?_eq_some_iff.1 ho).1;have h1:=(List.all_eq_true.1 h) i (by simpa using hi);simp only[ho,Bool.and_eq_true]at h1;refine⟨by simpa using h1.1,fun t ht=>?_⟩;have h2:=h1.2;rw[ht]at h2;simpa using h2
def Frm (ops:Array Oper) (vs:Nat→Value) (a:Act) (za:Array Bool) (a':Act):Prop:=
 a'.defers=a.defers∧a'.tmps.size=a.tmps.size∧∀ t,t<a.tmps.size→a'.tmps[t]? = match wr ops t with | some i=>(if za.getD i false=true then some (vs i)else a.tmps[t]?) | none=>a.tmps[t]?
theorem Frm.start(vs:Nat→Value)(a:Act):Frm ops vs a (Array.replicate ops.size false) a:=by
 refine⟨rfl,rfl,fun t _=>?_⟩;cases wr ops t with
 | none=>rfl
 | some i=>simp[Array.getD,Array.getElem_replicate]
theorem Frm.old{vs:Nat→Value}{a a':Act}{za:Array Bool}(h:Frm ops vs a za a'){t:Nat}(hw:wr ops t=none):a'.eval (.tmp t)=a.eval (.tmp t):=by
 show a'.tmps.getD t undef=a.tmps.getD t undef;rw[Array.getD_eq_getD_getElem?,Array.getD_eq_getD_getElem?];by_cases ht:t<a.tmps.size
 ·rw[h.2.2 t ht,hw]
 ·rw[Array.getElem?_eq_none (by have:=h.2.1;omega),Array.getElem?_eq_none (by omega)]
theorem Frm.new{vs:Nat→Value}{a a':Act}{za:Array Bool}(h:Frm ops vs a za a'){t i:Nat}(hw:wr ops t=some i)(ht:t<a.tmps.size)(hd:za.getD i false=true):a'.eval (.tmp t)=vs i:=by
 show a'.tmps.getD t undef=vs i;rw[Array.getD_eq_getD_getElem?,h.2.2 t ht,hw];simp[hd]
theorem Frm.step{vs:Nat→Value}{a a':Act}{za:Array Bool}(h:Frm ops vs a za a')(hs:za.size=ops.size){i:Nat}{o:Oper}(ho:ops[i]? = some o)(hw:∀ t,o.dst=some t→wr ops t=some i)(hun:za.getD i false≠true)(v:Value) :
  Frm ops (fun j=>if j=i then v else vs j) a (za.setIfInBounds i true) (a'.put o.dst v):=by
 have hi:i<ops.size:=(Array.getElem?_eq_some_iff.1 ho).1;have hgen:∀ j,(if(za.setIfInBounds i true).getD j false=true then some (if j=i then v else vs j)else none)=if j=i then some v else(if za.getD j false=true then some (vs j)else none):=by
  intro j;by_cases hj:j=i
  ·subst hj;have:j<za.size:=by omega
   simp[Array.getD,this]
  ·rw[getD_set_ne false (Ne.symm hj)];simp[hj]
 cases hd:o.dst with
 | none=>
  refine⟨h.1,h.2.1,fun t ht=>?_⟩;show a'.tmps[t]? = _;rw[h.2.2 t ht];cases hwt:wr ops t with
  | none=>rfl
  | some j=>
   have hj:j≠i:=by
    rintro rfl;have h1:=List.find?_some hwt;simp[ho,hd]at h1
   simp only[hj,if_false];rw[getD_set_ne false (Ne.symm hj)]
 | some d=>
  have hwd:=hw d hd;refine⟨h.1,by simpa [Act.put]using h.2.1,fun t ht=>?_⟩;show(a'.tmps.setIfInBounds d v)[t]? = _;rw[Array.getElem?_setIfInBounds,h.2.1];by_cases htd:d=t
  ·subst htd;rw[hwd];have:i<za.size:=by omega
   simp[Array.getD,this,ht]
  ·rw[if_neg htd,h.2.2 t ht];cases hwt:wr ops t with
   | none=>rfl
   | some j=>
    have hj:j≠i:=by
     rintro rfl;have h1:=List.find?_some hwt;simp[ho,hd]at h1;exact htd h1
    simp only[hj,if_false];rw[getD_set_ne false (Ne.symm hj)]
def zbj (ops:Array Oper) (vs:Nat→Value) (a:Act):Act:=
 { a with tmps:=Array.ofFn (n:=a.tmps.size) fun t=>match wr ops t.val with | some i=>vs i | none=>a.tmps[t.val] }
theorem Frm.all{vs:Nat→Value}{a a':Act}{za:Array Bool}(h:Frm ops vs a za a')(hd:∀ i,i<ops.size→za.getD i false=true):a'=zbj ops vs a:=by
 obtain⟨h1,h2,h3⟩:=h;have e:a'.tmps=(zbj ops vs a).tmps:=by
  apply Array.ext_getElem?;intro t;unfold zbj;rw[Array.getElem?_ofFn];by_cases ht:t<a.tmps.size
  ·rw[h3 t ht];simp only[ht];cases hw:wr ops t with
   | none=>simp[ht]
   | some i=>
    have h4:=List.mem_of_find?_eq_some hw;have hi:i<ops.size:=by simpa using h4
    simp[hd i hi]
  ·simp[ht];omega
 cases a';simp only[zbj]at *
 simp_all
theorem kr{id:Nat}{a:Act}{w:World}(hm:P.follows .mixedOrders=true)(hb:backB ops=true)(hB:onceB ops=true)(C:Array Bool→(Nat→Value)→World→Prop)(h0:C (Array.replicate ops.size false) (fun _=>undef) { w with drawn:=w.drawn+1 })(hop:∀ za vs a' w' i o,za.size=ops.size→ops[i]? = some o→i∈Region.ready .any ops za→Frm ops vs a za a'→C za vs w' →
   o.wp P a' w' (fun a'' w''=>∃ v,a''=a'.put o.dst v∧C (za.setIfInBounds i true) (fun j=>if j=i then v else vs j) w'') Q)(hend:∀ za vs a' w',(∀ i,i<ops.size→za.getD i false=true)→Frm ops vs a za a'→C za vs w'→Q .normal a' w'):(Code.region id ops true).wp P Q a w:=by
 refine zet hm (fun za a' w'=>∃ vs,Frm ops vs a za a'∧C za vs w') ⟨_,Frm.start _ a,h0⟩ ?_ ?_
 ·rintro za a' w' i hs ⟨vs,hF,hC⟩ hi;obtain⟨_,o,ho,_⟩:=mem_ready.1 hi;refine zbm ho (once_spec hB ho).1 ?_;have hun:=ya hi hs;have:=hop za vs a' w' i o hs ho hi hF hC;refine Oper.wp_mono (fun a'' w'' h=>?_) this;obtain⟨v,rfl,hC'⟩:=h;exact⟨_,hF.step hs ho (once_spec hB ho).2 (fun h=>hun h) v,hC'⟩
 ·rintro za a' w' hs ⟨vs,hF,hC⟩ hr;have hd:=all_done hb hs hr;exact hend za vs a' w' hd hF hC
theorem qm{o:Oper}{a:Act}{w:World}{K:Act→World→Prop}{f:FuncId}{args:Array Value}{v:Value}(hrun:(execOp a.eval o).run P w=.ok (.enter f args) w)(hc:Calls P f args w fun e w'=>e=.returned v∧Below w.heap.size w w')(h:∀ w',Below w.heap.size w w'→K (a.put o.dst v) w'):o.wp P a w K Q:=by
 unfold Oper.wp;rw[hrun,Oper.upon_enter];refine hc.mono ?_;rintro e w' ⟨rfl,hb⟩;exact h w' hb
theorem zt{o:Oper}{a:Act}{w w1:World}{K:Act→World→Prop}{v:Value}(hrun:(execOp a.eval o).run P w=.ok (.value v) w1)(h:K (a.put o.dst v) w1):o.wp P a w K Q:=by
 unfold Oper.wp;rw[hrun,Oper.upon_value];exact h
theorem wp_rowF{o:Oper}{a:Act}{w:World}{K:Act→World→Prop}(ty:TypeId)(x:Operand)(ho:o.op=.load ty x)(g:Nat)(hx:a.eval x=.pointer (some ⟨g,0,none⟩)){c:Array Value}{n:Nat}{e:TypeId}(hr:zb w g c)(hn:c.size=n)(hu:P.underlying ty=some (.array n e))(hi:(P.info? ty).map (·.size)=some n)(h:K (a.put o.dst (.agg c)) w):o.wp P a w K Q:=by
 obtain⟨t,hr⟩:=hr;exact wp_load_row ty x ho g hx t c (0,0) _ hr hu rfl (by rw[hn];exact hi) h
theorem zb5{o:Oper}{a:Act}{w:World}{K:Act→World→Prop}(ty:TypeId)(x y:Operand)(ho:o.op=.store ty x y)(g:Nat){c c':Array Value}{n:Nat}(hx:a.eval x=.pointer (some ⟨g,0,none⟩))(hy:a.eval y=.agg c')(hr:zb w g c)(hn:c.size=n)(hn':c'.size=n)(h1:c'.all (·.oneCell')=true)(hi:(P.info? ty).map (·.size)=some n)(h:K (a.put o.dst undef) (w.setRow g c')):o.wp P a w K Q:=by
 obtain⟨t,hr⟩:=hr;exact wp_store_row ty x y ho g c' hx hy t c hr (by rw[hn'];exact hi) (by rw[hn,hn']) h1 h
theorem ev{a:Act}{t:Nat}{v:Value}(h:a.eval (.tmp t)=v):a.tmps[t]?.getD undef=v:=by rw[← h];simp[Act.eval]
theorem zak{fn:Func}{p q:Tmp}{ty ty2:TypeId}(h:fn.results=#[.cell p ty,.cell q ty2])(a:Act)(w:World){g g2:Nat}{c c2:Array Value}{n n2:Nat}{e e2:TypeId}(h1:a.eval (.tmp p)=.pointer (some ⟨g,0,none⟩))(h2:a.eval (.tmp q)=.pointer (some ⟨g2,0,none⟩))(r1:zb w g c)(r2:zb w g2 c2)(n1:c.size=n)(n2':c2.size=n2)(hu:P.underlying ty=some (.array n e))(hi:(P.info? ty).map (·.size)=some n)(hu2:P.underlying ty2=some (.array n2 e2))(hi2:(P.info? ty2).map (·.size)=some n2) :
  (results fn a.tmps).run P w=.ok (.tuple #[.agg c,.agg c2]) w:=by
 obtain⟨t,r1⟩:=r1;obtain⟨t2,r2⟩:=r2;have k1:=run_loadVar_row (P:=P) w g t ty c (0,0) _ r1 hu rfl (by rw[n1];exact hi);have k2:=run_loadVar_row (P:=P) w g2 t2 ty2 c2 (0,0) _ r2 hu2 rfl (by rw[n2'];exact hi2);have h1':a.tmps.getD p undef=.pointer (some ⟨g,0,none⟩):=h1;have h2':a.tmps.getD q undef=.pointer (some ⟨g2,0,none⟩):=h2;simp only[results,h];simp[Sem.run_bind,Result.andThen,ev h1,ev h2,asAddr,k1,k2]
end
theorem dTz(l:Array Bool)(k:Nat):∀ j,j≠k→(l.setIfInBounds k true).getD j false=true→l.getD j false=true:=fun j hj h=>(yb h).resolve_left hj
theorem uz{l:Array Bool}{k j:Nat}{p:Prop}(c:l.getD j false=true→p)(hj:j≠k:=by decide)(h:(l.setIfInBounds k true).getD j false=true):p:=c ((yb h).resolve_left hj)
theorem dSz(l:Array Bool)(k:Nat):∀ j,l.getD j false=true→(l.setIfInBounds k true).getD j false=true:=fun j h=>zc h
theorem nwz{ops:Array Oper}{vs:Nat→Value}{a a':Act}{za:Array Bool}(h:Frm ops vs a za a')(t i j:Nat)(hi:j∈Region.ready .any ops za){x:Value}(c:za.getD i false=true→vs i=x)(hw:wr ops t=some i:=by kernel_rfl)(ht:t<a.tmps.size:=by simp)(hk:yp ops j i=true:=by kernel_rfl):a'.eval (.tmp t)=x:=(h.new hw ht (zg hk hi)).trans (c (zg hk hi))
section
variable {P:Program} {ops:Array Oper} {Q:Exit→Act→World→Prop}
def ka (ops:Array Oper):Bool:=(List.range ops.size).all fun i=>match ops[i]? with | some o=>o.after.all (fun e=> !Region.binds .any e||decide (e.on<i)) | none=>true
theorem all_done2(hb:ka ops=true){za:Array Bool}(hs:za.size=ops.size)(hr:Region.ready .any ops za=[]):∀ i,i<ops.size→za.getD i false=true:=by
 intro i
 induction i using Nat.strongRecOn with
 | _ i ih=>
  intro hi;by_cases h:za.getD i false=true
  ·exact h
  ·exfalso;have ho:ops[i]? = some ops[i]:=Array.getElem?_eq_getElem hi;have hmem:i∈Region.ready .any ops za:=by
    refine mem_ready.2 ⟨?_,ops[i],ho,fun e he hbd=>?_⟩
    ·have hi':i<za.size:=by omega
     simp[Array.getD,hi']at h ⊢;exact h
    ·have h1:=(List.all_eq_true.1 hb) i (by simpa using hi);simp only[ho]at h1;have h2:=(Array.all_eq_true_iff_forall_mem.1 h1) e he;have h3:e.on<i:=by simpa [hbd]using h2
     exact ih e.on h3 (by omega)
   rw[hr]at hmem;cases hmem
def wpG (ops:Array Oper) (o:Oper) (P:Program) (a:Act) (w:World) (K:Act→World→Prop) (Q:Exit→Act→World→Prop):Prop:=
 if Region.wanted o (yielded ops a.tmps)=true then o.wp P a w K Q else K (a.put o.dst undef) w
theorem vp{o:Oper}{a:Act}{w:World}{K K':Act→World→Prop}(h:∀ a w,K a w→K' a w)(hh:wpG ops o P a w K Q):wpG ops o P a w K' Q:=by
 unfold wpG at *;split
 ·next hw=>rw[if_pos hw]at hh;exact Oper.wp_mono h hh
 ·next hw=>rw[if_neg hw]at hh;exact h _ _ hh
theorem zi{o:Oper}{a:Act}{w:World}{K:Act→World→Prop}(hg:o.guard=none)(h:o.wp P a w K Q):wpG ops o P a w K Q:=by
 unfold wpG;rw[if_pos (by simp[Region.wanted,hg])];exact h
def zby (ops:Array Oper):Bool:=(List.range ops.size).all fun i=>match ops[i]? with | some o=>(match o.dst with | some t=>wr ops t == some i | none=>true) | none=>true
theorem vy(h:zby ops=true){i:Nat}{o:Oper}(ho:ops[i]? = some o):∀ t,o.dst=some t→wr ops t=some i:=by
 intro t ht;have hi:i<ops.size:=(Array.getElem?_eq_some_iff.1 ho).1;have h1:=(List.all_eq_true.1 h) i (by simpa using hi);simp only[ho,ht]at h1;simpa using h1
theorem wpList_inv(hb:ka ops=true)(I:Array Bool→Act→World→Prop)(hstep:∀(za:Array Bool) (a:Act) (w:World) (i:Nat) (o:Oper),za.size=ops.size→ops[i]? = some o→I za a w→i∈Region.ready .any ops za→wpG ops o P a w (fun a' w'=>I (za.setIfInBounds i true) a' w') Q)(hend:∀(za:Array Bool) (a:Act) (w:World),za.size=ops.size→(∀ i,i<ops.size→za.getD i false=true)→I za a w→Q .normal a w) :
  ∀(l:List Oper) (k:Nat) (za:Array Bool) (a:Act) (w:World),l=ops.toList.drop k→za.size=ops.size→(∀ i,i<ops.size→za.getD i false=decide (i<k))→I za a w→wpList P ops Q l a w
 | [],k,za,a,w,hl,hs,hd,hI=>by
  refine wpList_nil (hend za a w hs (fun i hi=>?_) hI);have hk:ops.size≤k:=by
   have:=congrArg List.length hl;simp at this;omega
  rw[hd i hi];exact decide_eq_true (by omega)
 | o::rest,k,za,a,w,hl,hs,hd,hI=>by
  have hk:k<ops.size:=by
   have:=congrArg List.length hl;simp at this;omega
  have hcons:=List.drop_eq_getElem_cons (l:=ops.toList) (i:=k) (by simpa using hk);rw[hcons]at hl;obtain⟨h1,h2⟩:=List.cons.inj hl;have ho:ops[k]? = some o:=by rw[h1];simp[hk]
  have hr:k∈Region.ready .any ops za:=by
   refine mem_ready.2 ⟨?_,o,ho,fun e he hbd=>?_⟩
   ·have h3:=hd k hk;have hk':k<za.size:=by omega
    simp[Array.getD,hk']at h3 ⊢;exact h3
   ·have h3:=(List.all_eq_true.1 hb) k (by simpa using hk);simp only[ho]at h3;have h4:=(Array.all_eq_true_iff_forall_mem.1 h3) e he;have h5:e.on<k:=by simpa [hbd]using h4
    rw[hd _ (by omega)];exact decide_eq_true h5
  refine wpList_step fun K hK=>?_;show wpG ops o P a w K Q;refine vp (fun a' w' h=>?_) (hstep za a w k o hs ho hI hr);refine hK _ _ (wpList_inv hb I hstep hend rest (k+1) _ a' w' h2 (by simpa using hs) (fun i hi=>?_) h);have hi':i<za.size:=by omega
  by_cases e:i=k
  ·subst e;simp[Array.getD,hi']
  ·have:=hd i hi;simp[Array.getD,hi']at this ⊢;rw[Array.getElem_setIfInBounds_ne hi' (fun h=>e h.symm),this];exact decide_eq_decide.2 ⟨fun h=>by omega,fun h=>by omega⟩
def RegV (P:Program) (ops:Array Oper) (Q:Exit→Act→World→Prop) (a:Act) (w:World):Prop:=
 ka ops=true∧∃ I:Array Bool→Act→World→Prop,(∀ w1,w1=w∨w1={ w with drawn:=w.drawn+1 }→I (Array.replicate ops.size false) a w1) ∧
  (∀(za:Array Bool) (a':Act) (w':World) (i:Nat) (o:Oper),za.size=ops.size→ops[i]? = some o→I za a' w'→i∈Region.ready .any ops za→wpG ops o P a' w' (fun a'' w''=>I (za.setIfInBounds i true) a'' w'') Q) ∧
  ∀(za:Array Bool) (a':Act) (w':World),za.size=ops.size→(∀ i,i<ops.size→za.getD i false=true)→I za a' w'→Q .normal a' w'
theorem RegV.wp{id:Nat}{d:Bool}{a:Act}{w:World}(hm:P.follows .mixedOrders=true)(h:RegV P ops Q a w):(Code.region id ops d).wp P Q a w:=by
 obtain⟨hb,I,h0,step,hend⟩:=h;cases d with
 | true=>
  refine zet hm I (h0 _ (.inr rfl)) ?_ ?_
  ·rintro za a' w' i hs hI hi;obtain⟨_,o,ho,_⟩:=mem_ready.1 hi;have h:=step za a' w' i o hs ho hI hi;unfold wpOp;rw[ho];unfold wpG at h;show if _ then _ else _
   split
   ·next hw=>rw[if_pos hw]at h;exact .inl h
   ·next hw=>rw[if_neg hw]at h;exact h
  ·rintro za a' w' hs hI hr;exact hend za a' w' hs (all_done2 hb hs hr) hI
 | false=>exact wp_region_list (wpList_inv hb I step hend ops.toList 0 (Array.replicate ops.size false) a w rfl (by simp) (fun i hi=>by simp[Array.getD,hi]) (h0 _ (.inl rfl)))
theorem zae{a:Act}{w:World}(hb:ka ops=true)(hB:zby ops=true)(C:Array Bool→(Nat→Value)→World→Prop)(h0:∀ w1,w1=w∨w1={ w with drawn:=w.drawn+1 }→C (Array.replicate ops.size false) (fun _=>undef) w1)(hop:∀ za vs a' w' i o,za.size=ops.size→ops[i]? = some o→i∈Region.ready .any ops za→Frm ops vs a za a'→C za vs w' →
   wpG ops o P a' w' (fun a'' w''=>∃ v,a''=a'.put o.dst v∧C (za.setIfInBounds i true) (fun j=>if j=i then v else vs j) w'') Q)(hend:∀ za vs a' w',(∀ i,i<ops.size→za.getD i false=true)→Frm ops vs a za a'→C za vs w'→Q .normal a' w'):RegV P ops Q a w:=by
 refine⟨hb,fun za a' w'=>∃ vs,Frm ops vs a za a'∧C za vs w',fun w1 h1=>⟨_,Frm.start _ a,h0 w1 h1⟩,?_,?_⟩
 ·rintro za a' w' i o hs ho ⟨vs,hF,hC⟩ hi;have hun:=ya hi hs;refine vp (fun a'' w'' h=>?_) (hop za vs a' w' i o hs ho hi hF hC);obtain⟨v,rfl,hC'⟩:=h;exact⟨_,hF.step hs ho (vy hB ho) (fun h=>hun h) v,hC'⟩
 ·rintro za a' w' hs hd ⟨vs,hF,hC⟩;exact hend za vs a' w' hd hF hC
end
abbrev Sp:Type:=Value ⊕ ((Nat→Value)×Nat×Array Value×Array Value) ⊕ Nat ⊕ (Nat×Array Value×Array Value)
abbrev sV (v:Value):Sp:=Sum.inl v
abbrev sA (f:Nat→Value) (st:Nat) (ini fin:Array Value):Sp:=Sum.inr (Sum.inl (f,st,ini,fin))
abbrev sS (al:Nat):Sp:=Sum.inr (Sum.inr (Sum.inl al))
abbrev sK (g:Nat) (ini fin:Array Value):Sp:=Sum.inr (Sum.inr (Sum.inr (g,ini,fin)))
def noOp : Oper := { dst := none, op := .move (.const undef), type := 0, pos := "", after := #[], guard := none }
def ym (ops:Array Oper) (i:Nat):Oper:=ops.getD i noOp
theorem opAt_eq{ops:Array Oper}{i:Nat}{o:Oper}(h:ops[i]? = some o):ym ops i=o:=by
 unfold ym;rw[Array.getD_eq_getD_getElem?,h];rfl
def pk (za:Array Bool) (k:Nat) (i e:Array Value):Array Value:=if za.getD k false=true then e else i
def xv (L:List Sp) (bs:Nat→Nat) (k:Nat):Value:=
 match L[k]? with
 | some (Sum.inl v)=>v
 | some (Sum.inr (Sum.inl (f,_,_,_)))=>f (bs k)
 | _=>undef
def isAl (L:List Sp) (k:Nat):Bool:=match L[k]? with | some (Sum.inr (Sum.inl _))=>true | _=>false
def stB (ops:Array Oper) (L:List Sp):Bool:=
 decide (L.length=ops.size)&&(List.range L.length).all fun k=>
  match L[k]? with
  | some (Sum.inr (Sum.inl (_,st,_,_)))=>(decide (L.length≤st))||((match L[st]? with | some (Sum.inr (Sum.inr (Sum.inl al)))=>al == k | _=>false)&&yp ops st k)
  | some (Sum.inr (Sum.inr (Sum.inl al)))=>match L[al]? with | some (Sum.inr (Sum.inl (_,st,_,_)))=>st == k | _=>false
  | _=>true
def newB (ops:Array Oper) (n i t j:Nat):Bool:=wr ops t == some j&&yp ops i j&&decide (t<n)
def KO (w w':World):Prop:=w.heap.size≤w'.heap.size∧∀(k:Nat) (o:Obj),w.heap[k]? = some o→(∀ c t,o≠.cells c t)→w'.heap[k]? = some o
theorem KO.trans{a b c:World}(h:KO a b)(k:KO b c):KO a c:=⟨Nat.le_trans h.1 k.1,fun i o hi ho=>k.2 i o (h.2 i o hi ho) ho⟩
theorem KO.below{w w':World}(h:Below w.heap.size w w'):KO w w':=⟨h.size,fun k o hk _=>by rw[h.block k (Array.getElem?_eq_some_iff.1 hk).1];exact hk⟩
theorem KO.setRow{w:World}{g:Nat}{c:Array Value}(h:zb w g c)(c':Array Value):KO w (w.setRow g c'):=by
 obtain⟨t,h⟩:=h;refine⟨by rw[zap];exact Nat.le_refl _,fun k o hk ho=>?_⟩;have hne:¬ g=k:=fun e=>by subst e;rw[h]at hk;cases hk;exact ho _ _ rfl
 simp only[World.setRow,Array.getElem?_modify,hne,if_false];exact hk
structure RI (wk:World) (ops:Array Oper) (w:World) (N0:Nat) (G:List (Nat×Array Value)) (L:List Sp) (bs:Nat→Nat) (za:Array Bool) (vs:Nat→Value) (w':World):Prop where
 bw:Below w.heap.size w w'
 ms:N0≤w'.heap.size
 rw:∀(n g:Nat) (c:Array Value),G[n]? = some (g,c)→zb w' g c
 vl:∀ k,za.getD k false=true→vs k=xv L bs k
 al:∀(k:Nat) f st i e,L[k]? = some (sA f st i e)→za.getD k false=true→N0≤bs k∧zb w' (bs k) (pk za st i e)
 ne:∀ j k,j≠k→isAl L j=true→isAl L k=true→za.getD j false=true→za.getD k false=true→bs j≠bs k
 sk:∀(k g:Nat) i e,L[k]? = some (sK g i e)→zb w' g (pk za k i e)
 wt:∀ j k,yp ops k j=true→za.getD k false=true→za.getD j false=true
 sz:za.size=ops.size
 ko:KO wk w'
structure RE (ops:Array Oper) (a:Act) (w:World) (N0:Nat) (G:List (Nat×Array Value)) (L:List Sp) (k:Nat) (a':Act) (w':World):Prop where
 bw:Below w.heap.size w w'
 ms:N0≤w'.heap.size
 row:∀(n:Nat) {g:Nat} {c:Array Value},G[n]? = some (g,c)→zb w' g c
 old:∀ t,wr ops t=none→a'.eval (.tmp t)=a.eval (.tmp t)
 olds:∀ t j,wr ops t=some j→yp ops j k=true→a'.eval (.tmp t)=a.eval (.tmp t)
 new:∀(t j:Nat) {v:Value},newB ops a.tmps.size k t j=true→L[j]? = some (sV v)→a'.eval (.tmp t)=v
 ali:∀(t j:Nat) {f st i e},newB ops a.tmps.size k t j=true→L[j]? = some (sA f st i e)→L.length≤st→∃ g,a'.eval (.tmp t)=f g∧N0≤g∧zb w' g i
 skb:∀(j:Nat) {g:Nat} {i e},L[j]? = some (sK g i e)→yp ops j k=true→zb w' g i
 ska:∀(j:Nat) {g:Nat} {i e},L[j]? = some (sK g i e)→yp ops k j=true→zb w' g e
section
variable (P:Program) (ops:Array Oper) (Q:Exit→Act→World→Prop) (a:Act) (w:World) (N0:Nat) (G:List (Nat×Array Value)) (L:List Sp)
def Ob (k:Nat):Sp→Prop
 | Sum.inl v=>∀ a' w',RE ops a w N0 G L k a' w'→wpG ops (ym ops k) P a' w' (fun a'' w''=>a''=a'.put (ym ops k).dst v∧Below w'.heap.size w' w'') Q
 | Sum.inr (Sum.inl (f,st,i,e))=>∀ a' w',RE ops a w N0 G L k a' w'→wpG ops (ym ops k) P a' w' (fun a'' w''=>a''=a'.put (ym ops k).dst (f w'.heap.size)∧∃ t,w''=w'.alloc (.cells i t)) Q
 | Sum.inr (Sum.inr (Sum.inl al))=>∀ a' w' g f st i e,L[al]? = some (sA f st i e)→RE ops a w N0 G L k a' w'→(∀ t,newB ops a.tmps.size k t al=true→a'.eval (.tmp t)=f g)→zb w' g i→wpG ops (ym ops k) P a' w' (fun a'' w''=>a''=a'.put (ym ops k).dst undef∧w''=w'.setRow g e) Q
 | Sum.inr (Sum.inr (Sum.inr (g,i,e)))=>∀ a' w',RE ops a w N0 G L k a' w'→zb w' g i→wpG ops (ym ops k) P a' w' (fun a'' w''=>a''=a'.put (ym ops k).dst undef∧w''=w'.setRow g e) Q
def Obs:Nat→List Sp→Prop
 | _,[]=>True
 | k,s::l=>Ob P ops Q a w N0 G L k s∧Obs (k+1) l
end
theorem Obs.at{P:Program}{ops:Array Oper}{Q:Exit→Act→World→Prop}{a:Act}{w:World}{N0:Nat}{G:List (Nat×Array Value)}{L:List Sp} :
  ∀(l:List Sp) (k:Nat),Obs P ops Q a w N0 G L k l→∀(n:Nat) (s:Sp),l[n]? = some s→Ob P ops Q a w N0 G L (k+n) s
 | [],_,_,n,s,h=>by simp at h
 | s'::l,k,hO,0,s,h=>by
  simp at h;subst h;exact hO.1
 | s'::l,k,hO,n+1,s,h=>by
  have:=Obs.at l (k+1) hO.2 n s (by simpa using h)
  rwa [show k+1+n=k+(n+1) by omega]at this
def zl (w:World):List (Nat×Array Value)→Prop
 | []=>True
 | p::l=>zb w p.1 p.2∧zl w l
theorem zl.get{w:World}:∀{G:List (Nat×Array Value)},zl w G→∀(n g:Nat) (c:Array Value),G[n]? = some (g,c)→zb w g c
 | [],_,n,g,c,h=>by simp at h
 | p::l,hG,0,g,c,h=>by
  simp at h;subst h;exact hG.1
 | p::l,hG,n+1,g,c,h=>zl.get hG.2 n g c (by simpa using h)
def y9 (g:Nat):List (Nat×Array Value)→Prop
 | []=>True
 | p::l=>p.1≠g∧y9 g l
theorem y9.get{g:Nat}:∀{G:List (Nat×Array Value)},y9 g G→∀(n g':Nat) (c:Array Value),G[n]? = some (g',c)→g'≠g
 | [],_,n,g',c,h=>by simp at h
 | p::l,hG,0,g',c,h=>by
  simp at h;subst h;exact hG.1
 | p::l,hG,n+1,g',c,h=>y9.get hG.2 n g' c (by simpa using h)
def zc8 (g:Nat):List Sp→Prop
 | []=>True
 | Sum.inr (Sum.inr (Sum.inr (g',_,_)))::l=>g'≠g∧zc8 g l
 | _::l=>zc8 g l
theorem zc8.get{g:Nat}:∀{l:List Sp},zc8 g l→∀(n g':Nat) i e,l[n]? = some (sK g' i e)→g'≠g
 | [],_,n,g',i,e,h=>by simp at h
 | s::l,hG,0,g',i,e,h=>by
  simp at h;subst h;exact hG.1
 | s::l,hG,n+1,g',i,e,h=>by
  have:zc8 g l:=by rcases s with v|x|x|x<;>first|exact hG.2|exact hG
  exact zc8.get this n g' i e (by simpa using h)
def StOk (B:Nat) (w:World) (G:List (Nat×Array Value)):List Sp→Prop
 | []=>True
 | Sum.inr (Sum.inr (Sum.inr (g,i,_)))::l=>(zb w g i∧B≤g∧y9 g G∧zc8 g l)∧StOk B w G l
 | _::l=>StOk B w G l
theorem StOk.get{B:Nat}{w:World}{G:List (Nat×Array Value)}:∀{l:List Sp},StOk B w G l→∀(n g:Nat) i e,l[n]? = some (sK g i e)→zb w g i∧B≤g∧y9 g G
 | [],_,n,g,i,e,h=>by simp at h
 | s::l,hG,0,g,i,e,h=>by
  simp at h;subst h;exact⟨hG.1.1,hG.1.2.1,hG.1.2.2.1⟩
 | s::l,hG,n+1,g,i,e,h=>by
  have:StOk B w G l:=by rcases s with v|x|x|x<;>first|exact hG.2|exact hG
  exact StOk.get this n g i e (by simpa using h)
theorem StOk.apart{B:Nat}{w:World}{G:List (Nat×Array Value)}:∀{l:List Sp},StOk B w G l→∀(n m g:Nat) i e (g':Nat) i' e',n<m→l[n]? = some (sK g i e)→l[m]? = some (sK g' i' e')→g'≠g
 | [],_,n,m,g,i,e,g',i',e',_,h,_=>by simp at h
 | s::l,hG,0,m+1,g,i,e,g',i',e',_,h,h'=>by
  simp at h;subst h;exact hG.1.2.2.2.get m g' i' e' (by simpa using h')
 | s::l,hG,n+1,m+1,g,i,e,g',i',e',hnm,h,h'=>by
  have:StOk B w G l:=by rcases s with v|x|x|x<;>first|exact hG.2|exact hG
  exact StOk.apart this n m g i e g' i' e' (by omega) (by simpa using h) (by simpa using h')
theorem pk_ne{za:Array Bool}{q k:Nat}(h:q≠k)(i e:Array Value):pk (za.setIfInBounds q true) k i e=pk za k i e:=by
 unfold pk;rw[getD_set_ne false h]
theorem pk_me{za:Array Bool}{q:Nat}(h:q<za.size)(i e:Array Value):pk (za.setIfInBounds q true) q i e=e:=by
 unfold pk;rw[if_pos];simp[Array.getD,h]
theorem pk_no{za:Array Bool}{k:Nat}(h:¬ za.getD k false=true)(i e:Array Value):pk za k i e=i:=by
 unfold pk;rw[if_neg h]
theorem xv_upd{L:List Sp}{bs:Nat→Nat}{q k:Nat}(h:k≠q)(n:Nat):xv L (fun j=>if j=q then n else bs j) k=xv L bs k:=by
 unfold xv;simp only[if_neg h]
structure RF (wk:World) (w:World) (N0:Nat) (G:List (Nat×Array Value)) (L:List Sp) (bs:Nat→Nat) (w':World):Prop where
 bw:Below w.heap.size w w'
 row:∀(n:Nat) {g:Nat} {c:Array Value},G[n]? = some (g,c)→zb w' g c
 al:∀(k:Nat) {f st i e},L[k]? = some (sA f st i e)→decide (st<L.length)=true→N0≤bs k∧zb w' (bs k) e
 ali:∀(k:Nat) {f st i e},L[k]? = some (sA f st i e)→decide (st<L.length)=false→N0≤bs k∧zb w' (bs k) i
 ne:∀ j k,j≠k→isAl L j=true→isAl L k=true→bs j≠bs k
 sk:∀(k:Nat) {g:Nat} {i e},L[k]? = some (sK g i e)→zb w' g e
 ko:KO wk w'
theorem regV_told{P:Program}{ops:Array Oper}{Q:Exit→Act→World→Prop}{a:Act}{w0 w:World}(hb:ka ops=true)(hB:zby ops=true)(G:List (Nat×Array Value))(L:List Sp)(hst:stB ops L=true)(bw:Below w0.heap.size w0 w)(hG:zl w G)(hS:StOk w0.heap.size w G L)(hO:Obs P ops Q a w0 w.heap.size G L 0 L)(hend:∀ bs w' a',a'=zbj ops (xv L bs) a→RF w w0 w.heap.size G L bs w'→Q .normal a' w'):RegV P ops Q a w:=by
 have hlen:L.length=ops.size:=by
  simp only[stB,Bool.and_eq_true,decide_eq_true_eq]at hst;exact hst.1
 have hal:∀(k:Nat) f st i e,L[k]? = some (sA f st i e)→L.length≤st∨(L[st]? = some (sS k)∧yp ops st k=true):=by
  intro k f st i e hk;simp only[stB,Bool.and_eq_true,decide_eq_true_eq,List.all_eq_true,List.mem_range]at hst;have hkl:k<L.length:=(List.getElem?_eq_some_iff.1 hk).1;have h:=hst.2 k hkl;simp only[hk,Bool.or_eq_true,decide_eq_true_eq,Bool.and_eq_true]at h;rcases h with h|⟨h1,h2⟩
  ·exact .inl h
  ·right;refine⟨?_,h2⟩;cases hs:L[st]? with
   | none=>rw[hs]at h1;simp at h1
   | some s=>
    rw[hs]at h1;rcases s with v|x|al|x
    ·simp at h1
    ·simp at h1
    ·simp at h1;rw[h1]
    ·simp at h1
 have hsa:∀(k al:Nat),L[k]? = some (sS al)→∃ f i e,L[al]? = some (sA f k i e):=by
  intro k al hk;simp only[stB,Bool.and_eq_true,decide_eq_true_eq,List.all_eq_true,List.mem_range]at hst;have hkl:k<L.length:=(List.getElem?_eq_some_iff.1 hk).1;have h:=hst.2 k hkl;simp only[hk]at h;cases hs:L[al]? with
  | none=>rw[hs]at h;simp at h
  | some s=>
   rw[hs]at h;rcases s with v|⟨f,st,i,e⟩|x|x
   ·simp at h
   ·simp at h;rw[h];exact⟨f,i,e,rfl⟩
   ·simp at h
   ·simp at h
 refine zae hb hB (fun za vs w'=>∃ bs,RI w ops w0 w.heap.size G L bs za vs w') ?_ ?_ ?_
 ·intro w1 hw1;have hw2:Below w0.heap.size w0 w1:=by rcases hw1 with rfl|rfl;exact bw;exact bw.drew
  have hw3:w1.heap=w.heap:=by rcases hw1 with rfl|rfl<;>rfl
  have hw4:∀{g c},zb w g c→zb w1 g c:=fun⟨t,h⟩=>⟨t,by rw[hw3];exact h⟩
  refine⟨fun _=>0,hw2,by rw[hw3];exact Nat.le_refl _,fun n g c h=>hw4 (hG.get n g c h),?_,?_,?_,?_,?_,by simp,by rw[hw3];exact Nat.le_refl _,fun k o hk _=>by rw[hw3];exact hk⟩
  ·intro k h;simp[Array.getD]at h
  ·intro k f st i e _ h;simp[Array.getD]at h
  ·intro j k _ _ _ h;simp[Array.getD]at h
  ·intro k g i e h;rw[pk_no (by simp[Array.getD])];exact hw4 (hS.get k g i e h).1
  ·intro j k _ h;simp[Array.getD]at h
 ·rintro za vs a' w' i o hs ho hi hF ⟨bs,cc⟩;have hil:i<L.length:=by rw[hlen];exact(Array.getElem?_eq_some_iff.1 ho).1
  have his:i<za.size:=by omega
  have hun:¬ za.getD i false=true:=fun h=>ya hi hs h
  have T:∀ j,j≠i→(za.setIfInBounds i true).getD j false=true→za.getD j false=true:=fun j hj h=>(yb h).resolve_left hj
  have S:∀ j,za.getD j false=true→(za.setIfInBounds i true).getD j false=true:=fun j h=>zc h
  have hwt:∀ j k,yp ops k j=true→(za.setIfInBounds i true).getD k false=true→(za.setIfInBounds i true).getD j false=true:=by
   intro j k hjk hk;rcases yb hk with rfl|hk
   ·exact S j (zg hjk hi)
   ·exact S j (cc.wt j k hjk hk)
  have hsz:(za.setIfInBounds i true).size=ops.size:=by rw[Array.size_setIfInBounds];exact hs
  have ho':ym ops i=o:=opAt_eq ho;have E:RE ops a w0 w.heap.size G L i a' w':=by
   refine⟨cc.bw,cc.ms,fun n {g} {c} h=>cc.rw n g c h,fun t h=>hF.old h,fun t j h1 h2=>?_,fun t j {v} h1 h2=>?_,fun t j {f st i1 e} h1 h2 h3=>?_,fun j {g i1 e} h1 h2=>?_,fun j {g i1 e} h1 h2=>?_⟩
   ·have hn:¬ za.getD j false=true:=fun h=>hun (cc.wt i j h2 h)
    show a'.tmps.getD t undef=a.tmps.getD t undef;rw[Array.getD_eq_getD_getElem?,Array.getD_eq_getD_getElem?];by_cases ht:t<a.tmps.size
    ·rw[hF.2.2 t ht,h1];simp only[hn,if_false,Bool.false_eq_true]
    ·rw[Array.getElem?_eq_none (by have:=hF.2.1;omega),Array.getElem?_eq_none (by omega)]
   ·simp only[newB,Bool.and_eq_true,beq_iff_eq,decide_eq_true_eq]at h1;have hd:=zg h1.1.2 hi;rw[hF.new h1.1.1 h1.2 hd,cc.vl j hd];unfold xv;rw[h2]
   ·simp only[newB,Bool.and_eq_true,beq_iff_eq,decide_eq_true_eq]at h1;have hd:=zg h1.1.2 hi;obtain⟨k1,k2⟩:=cc.al j f st i1 e h2 hd;refine⟨bs j,?_,k1,?_⟩
    ·rw[hF.new h1.1.1 h1.2 hd,cc.vl j hd];unfold xv;rw[h2]
    ·have:¬ za.getD st false=true:=by
      intro h;have:st<za.size:=by
       rcases Nat.lt_or_ge st za.size with h'|h'
       ·exact h'
       ·simp[Array.getD,Nat.not_lt.2 h']at h
      omega
     rw[pk_no this]at k2;exact k2
   ·have hn:¬ za.getD j false=true:=fun h=>hun (cc.wt i j h2 h)
    have:=cc.sk j g i1 e h1;rw[pk_no hn]at this;exact this
   ·have hd:=zg h2 hi;have:=cc.sk j g i1 e h1;unfold pk at this;rw[if_pos hd]at this;exact this
  have hOb:Ob P ops Q a w0 w.heap.size G L i L[i]:=by
   have:=Obs.at L 0 hO i L[i] (List.getElem?_eq_getElem hil)
   rwa [Nat.zero_add]at this
  have hLi:L[i]? = some L[i]:=List.getElem?_eq_getElem hil;generalize L[i]=s at hOb hLi;have stne:∀(k:Nat) f st i1 e,L[k]? = some (sA f st i1 e)→(∀ al,s≠sS al)→i≠st:=by
   intro k f st i1 e hk hne;rcases hal k f st i1 e hk with h|⟨h,_⟩
   ·omega
   ·rintro rfl;rw[hLi]at h;exact hne k (Option.some.inj h)
  rcases s with v|⟨f,st,i1,e⟩|al|⟨g,i1,e⟩
  ·refine vp ?_ (ho' ▸ hOb a' w' E);rintro a'' w'' ⟨rfl,hbl⟩;refine⟨v,rfl,bs,cc.bw.trans (hbl.mono cc.bw.size),Nat.le_trans cc.ms hbl.size,fun n g c h=>(cc.rw n g c h).below hbl,?_,?_,?_,?_,hwt,hsz,cc.ko.trans (KO.below hbl)⟩
   ·intro k hk;by_cases e:k=i
    ·subst e;rw[if_pos rfl];unfold xv;rw[hLi]
    ·rw[if_neg e];exact cc.vl k (T k e hk)
   ·intro k f st i1 e hk hd;have e1:k≠i:=by rintro rfl;rw[hLi]at hk;cases hk
    obtain⟨k1,k2⟩:=cc.al k f st i1 e hk (T k e1 hd);rw[pk_ne (stne k f st i1 e hk (by intro al h;cases h))];exact⟨k1,k2.below hbl⟩
   ·intro j k hjk h1 h2 d1 d2;have e1:j≠i:=by rintro rfl;simp[isAl,hLi]at h1
    have e2:k≠i:=by rintro rfl;simp[isAl,hLi]at h2
    exact cc.ne j k hjk h1 h2 (T j e1 d1) (T k e2 d2)
   ·intro k g i1 e hk;have e1:i≠k:=by rintro rfl;rw[hLi]at hk;cases hk
    rw[pk_ne e1];exact(cc.sk k g i1 e hk).below hbl
  ·refine vp ?_ (ho' ▸ hOb a' w' E);rintro a'' w'' ⟨rfl,t,rfl⟩;have hst0:=stne i f st i1 e hLi (by intro al h;cases h);have hstn:¬ za.getD st false=true:=by
    intro h;rcases hal i f st i1 e hLi with h'|⟨_,h'⟩
    ·have:st<za.size:=by
      rcases Nat.lt_or_ge st za.size with q|q
      ·exact q
      ·simp[Array.getD,Nat.not_lt.2 q]at h
     omega
    ·exact hun (cc.wt i st h' h)
   refine⟨f w'.heap.size,rfl,fun j=>if j=i then w'.heap.size else bs j,zj cc.bw _,by have:=cc.ms;simp;omega,fun n g c h=>(cc.rw n g c h).old,?_,?_,?_,?_,hwt,hsz,cc.ko.trans (KO.below (zj (Below.refl _ _) _))⟩
   ·intro k hk;by_cases e1:k=i
    ·subst e1;rw[if_pos rfl];unfold xv;rw[hLi];simp
    ·rw[if_neg e1,xv_upd e1];exact cc.vl k (T k e1 hk)
   ·intro k f2 st2 i2 e2 hk hd;by_cases e1:k=i
    ·subst e1;rw[hLi]at hk;cases hk;rw[if_pos rfl,pk_ne hst0,pk_no hstn];exact⟨cc.ms,zb.last rfl⟩
    ·obtain⟨k1,k2⟩:=cc.al k f2 st2 i2 e2 hk (T k e1 hd);rw[if_neg e1,pk_ne (stne k f2 st2 i2 e2 hk (by intro al h;cases h))];exact⟨k1,k2.old⟩
   ·have lt:∀ k,k≠i→isAl L k=true→za.getD k false=true→bs k<w'.heap.size:=by
     intro k hk h1 h2;cases hs:L[k]? with
     | none=>simp[isAl,hs]at h1
     | some s=>
      rcases s with v|⟨f2,st2,i2,e2⟩|x|x
      ·simp[isAl,hs]at h1
      ·exact(cc.al k f2 st2 i2 e2 hs h2).2.lt
      ·simp[isAl,hs]at h1
      ·simp[isAl,hs]at h1
    intro j k hjk h1 h2 d1 d2;by_cases e1:j=i
    ·have e2:k≠i:=fun h=>hjk (e1.trans h.symm)
     rw[if_pos e1,if_neg e2];have:=lt k e2 h2 (T k e2 d2);omega
    ·by_cases e2:k=i
     ·rw[if_neg e1,if_pos e2];have:=lt j e1 h1 (T j e1 d1);omega
     ·rw[if_neg e1,if_neg e2];exact cc.ne j k hjk h1 h2 (T j e1 d1) (T k e2 d2)
   ·intro k g i2 e2 hk;have e1:i≠k:=by rintro rfl;rw[hLi]at hk;cases hk
    rw[pk_ne e1];exact(cc.sk k g i2 e2 hk).old
  ·obtain⟨f,i1,e,hk⟩:=hsa i al hLi;have hwa:yp ops i al=true:=by
    rcases hal al f i i1 e hk with h|h
    ·omega
    ·exact h.2
   have hd:=zg hwa hi;obtain⟨k1,k2⟩:=cc.al al f i i1 e hk hd;rw[pk_no hun]at k2;have hne:al≠i:=by rintro rfl;rw[hLi]at hk;cases hk
   refine vp ?_ (ho' ▸ hOb a' w' (bs al) f i i1 e hk E (fun t ht=>?_) k2)
   ·rintro a'' w'' ⟨rfl,rfl⟩;refine⟨undef,rfl,bs,zf cc.bw (Nat.le_trans bw.size k1) _,by rw[zap];exact cc.ms,fun n g c h=>(cc.rw n g c h).set_other _ ?_,?_,?_,?_,?_,hwt,hsz,cc.ko.trans (KO.setRow k2 _)⟩
    ·have:=(hG.get n g c h).lt;omega
    ·intro k hk';by_cases e1:k=i
     ·subst e1;rw[if_pos rfl];unfold xv;rw[hLi]
     ·rw[if_neg e1];exact cc.vl k (T k e1 hk')
    ·intro k f2 st2 i2 e2 hk2 hd2;have e1:k≠i:=by rintro rfl;rw[hLi]at hk2;cases hk2
     obtain⟨m1,m2⟩:=cc.al k f2 st2 i2 e2 hk2 (T k e1 hd2);by_cases e2:k=al
     ·subst e2;rw[hk]at hk2;cases hk2;rw[pk_me his];exact⟨m1,k2.set_same _⟩
     ·have e3:i≠st2:=by
       rintro rfl;rcases hal k f2 i i2 _ hk2 with h|⟨h,_⟩
       ·omega
       ·rw[hLi]at h;cases h;exact e2 rfl
      rw[pk_ne e3];exact⟨m1,m2.set_other _ (cc.ne al k (Ne.symm e2) (by simp[isAl,hk]) (by simp[isAl,hk2]) hd (T k e1 hd2))⟩
    ·intro j k hjk h1 h2 d1 d2;have e1:j≠i:=by rintro rfl;simp[isAl,hLi]at h1
     have e2:k≠i:=by rintro rfl;simp[isAl,hLi]at h2
     exact cc.ne j k hjk h1 h2 (T j e1 d1) (T k e2 d2)
    ·intro k g i2 e2 hk2;have e1:i≠k:=by rintro rfl;rw[hLi]at hk2;cases hk2
     rw[pk_ne e1];refine(cc.sk k g i2 e2 hk2).set_other _ ?_;have:=(hS.get k g i2 e2 hk2).1.lt;omega
   ·simp only[newB,Bool.and_eq_true,beq_iff_eq,decide_eq_true_eq]at ht;rw[hF.new ht.1.1 ht.2 hd,cc.vl al hd];unfold xv;rw[hk]
  ·have k2:=cc.sk i g i1 e hLi;rw[pk_no hun]at k2;obtain⟨x1,x2,x3⟩:=hS.get i g i1 e hLi;have hgl:=x1.lt;refine vp ?_ (ho' ▸ hOb a' w' E k2);rintro a'' w'' ⟨rfl,rfl⟩;refine⟨undef,rfl,bs,zf cc.bw x2 _,by rw[zap];exact cc.ms,fun n g' c h=>(cc.rw n g' c h).set_other _ (x3.get n g' c h).symm,?_,?_,?_,?_,hwt,hsz,cc.ko.trans (KO.setRow k2 _)⟩
   ·intro k hk';by_cases e1:k=i
    ·subst e1;rw[if_pos rfl];unfold xv;rw[hLi]
    ·rw[if_neg e1];exact cc.vl k (T k e1 hk')
   ·intro k f2 st2 i2 e2 hk2 hd2;have e1:k≠i:=by rintro rfl;rw[hLi]at hk2;cases hk2
    obtain⟨m1,m2⟩:=cc.al k f2 st2 i2 e2 hk2 (T k e1 hd2);rw[pk_ne (stne k f2 st2 i2 e2 hk2 (by intro al h;cases h))];exact⟨m1,m2.set_other _ (by omega)⟩
   ·intro j k hjk h1 h2 d1 d2;have e1:j≠i:=by rintro rfl;simp[isAl,hLi]at h1
    have e2:k≠i:=by rintro rfl;simp[isAl,hLi]at h2
    exact cc.ne j k hjk h1 h2 (T j e1 d1) (T k e2 d2)
   ·intro k g2 i2 e2 hk2;by_cases e1:i=k
    ·subst e1;rw[hLi]at hk2;cases hk2;rw[pk_me his];exact k2.set_same _
    ·rw[pk_ne e1];refine(cc.sk k g2 i2 e2 hk2).set_other _ ?_;rcases Nat.lt_or_ge i k with hlt|hge
     ·exact(StOk.apart hS i k g i1 e g2 i2 e2 hlt hLi hk2).symm
     ·exact StOk.apart hS k i g2 i2 e2 g i1 e (by omega) hk2 hLi
 ·rintro za vs a' w' hd hF ⟨bs,cc⟩;have hvs:zbj ops vs a=zbj ops (xv L bs) a:=by
   unfold zbj
   congr 1
   apply Array.ext
   ·simp
   ·intro t h1 h2;simp only[Array.getElem_ofFn];cases hw:wr ops t with
    | none=>rfl
    | some j=>
     have hj:j<ops.size:=by
      have:=List.mem_of_find?_eq_some hw;simpa using this
     exact cc.vl j (hd j hj)
  rw[hF.all hd,hvs];refine hend bs w' _ rfl ⟨cc.bw,fun n {g c} h=>cc.rw n g c h,fun k {f st i e} h h'=>?_,fun k {f st i e} h h'=>?_,fun j k hjk h1 h2=>?_,fun k {g i e} h=>?_,cc.ko⟩
  ·have hkl:k<L.length:=(List.getElem?_eq_some_iff.1 h).1;obtain⟨k1,k2⟩:=cc.al k f st i e h (hd k (by omega));have hlt:=of_decide_eq_true h';unfold pk at k2;rw[if_pos (hd st (by omega))]at k2;exact⟨k1,k2⟩
  ·have hkl:k<L.length:=(List.getElem?_eq_some_iff.1 h).1;obtain⟨k1,k2⟩:=cc.al k f st i e h (hd k (by omega));have hge:=of_decide_eq_false h';have:¬ za.getD st false=true:=by
    intro h';have:st<za.size:=by
     rcases Nat.lt_or_ge st za.size with q|q
     ·exact q
     ·simp[Array.getD,Nat.not_lt.2 q]at h'
    have:=cc.sz;omega
   rw[pk_no this]at k2;exact⟨k1,k2⟩
  ·have lt:∀ k,isAl L k=true→k<ops.size:=by
    intro k h;rcases Nat.lt_or_ge k L.length with h'|h'
    ·omega
    ·simp[isAl,List.getElem?_eq_none h']at h
   exact cc.ne j k hjk h1 h2 (hd j (lt j h1)) (hd k (lt k h2))
  ·have hkl:k<L.length:=(List.getElem?_eq_some_iff.1 h).1;have:=cc.sk k g i e h;unfold pk at this;rw[if_pos (hd k (by omega))]at this;exact this
theorem zd1{P:Program}{ops:Array Oper}{Q:Exit→Act→World→Prop}{id:Nat}{d:Bool}{a:Act}{w0 w:World}(hm:P.follows .mixedOrders=true)(hb:ka ops=true)(hB:zby ops=true)(G:List (Nat×Array Value))(L:List Sp)(hst:stB ops L=true)(bw:Below w0.heap.size w0 w)(hG:zl w G)(hS:StOk w0.heap.size w G L)(hO:Obs P ops Q a w0 w.heap.size G L 0 L)(hend:∀ bs w' a',a'=zbj ops (xv L bs) a→RF w w0 w.heap.size G L bs w'→Q .normal a' w'):(Code.region id ops d).wp P Q a w:=(regV_told hb hB G L hst bw hG hS hO hend).wp hm
def stks:List Sp→List (Nat×Array Value)
 | []=>[]
 | Sum.inr (Sum.inr (Sum.inr (g,i,_)))::l=>(g,i)::stks l
 | Sum.inl _::l=>stks l
 | Sum.inr (Sum.inl _)::l=>stks l
 | Sum.inr (Sum.inr (Sum.inl _))::l=>stks l
def StM (B:Nat) (w:World) (G:List (Nat×Array Value)):List (Nat×Array Value)→Prop
 | []=>True
 | p::l=>(zb w p.1 p.2∧B≤p.1∧y9 p.1 G∧y9 p.1 l)∧StM B w G l
theorem zcj{g:Nat}:∀{l:List Sp},y9 g (stks l)→zc8 g l
 | [],_=>trivial
 | Sum.inr (Sum.inr (Sum.inr _))::l,h=>⟨h.1,zcj (l:=l) h.2⟩
 | Sum.inl _::l,h=>zcj (l:=l) h
 | Sum.inr (Sum.inl _)::l,h=>zcj (l:=l) h
 | Sum.inr (Sum.inr (Sum.inl _))::l,h=>zcj (l:=l) h
theorem stOk_of{B:Nat}{w:World}{G:List (Nat×Array Value)}:∀{l:List Sp},StM B w G (stks l)→StOk B w G l
 | [],_=>trivial
 | Sum.inr (Sum.inr (Sum.inr _))::l,h=>⟨⟨h.1.1,h.1.2.1,h.1.2.2.1,zcj (l:=l) h.1.2.2.2⟩,stOk_of (l:=l) h.2⟩
 | Sum.inl _::l,h=>stOk_of (l:=l) h
 | Sum.inr (Sum.inl _)::l,h=>stOk_of (l:=l) h
 | Sum.inr (Sum.inr (Sum.inl _))::l,h=>stOk_of (l:=l) h
theorem StOk.of{B:Nat}{w:World}{G:List (Nat×Array Value)}{l:List Sp}(M:List (Nat×Array Value))(h:stks l=M)(hM:StM B w G M):StOk B w G l:=by
 subst h;exact stOk_of hM
theorem StM.nil{B:Nat}{w:World}{G:List (Nat×Array Value)}:StM B w G []:=trivial
theorem StM.cons{B:Nat}{w:World}{G:List (Nat×Array Value)}{g:Nat}{c:Array Value}{l:List (Nat×Array Value)}(h1:zb w g c)(h2:B≤g)(h3:y9 g G)(h4:y9 g l)(h:StM B w G l):StM B w G ((g,c)::l):=⟨⟨h1,h2,h3,h4⟩,h⟩
theorem y9.nil{g:Nat}:y9 g []:=trivial
theorem y9.cons{g g':Nat}{c:Array Value}{l:List (Nat×Array Value)}(h:g'≠g)(t:y9 g l):y9 g ((g',c)::l):=⟨h,t⟩
theorem zl.nil{w:World}:zl w []:=trivial
theorem zl.cons{w:World}{g:Nat}{c:Array Value}{l:List (Nat×Array Value)}(h:zb w g c)(t:zl w l):zl w ((g,c)::l):=⟨h,t⟩
section
variable {P:Program} {ops:Array Oper} {Q:Exit→Act→World→Prop} {a:Act} {w:World} {N0:Nat} {G:List (Nat×Array Value)} {L:List Sp} {k:Nat} {l:List Sp}
theorem Obs.nil:Obs P ops Q a w N0 G L k []:=trivial
theorem Obs.val{v:Value}(h:∀ a' w',RE ops a w N0 G L k a' w'→(ym ops k).wp P a' w' (fun a'' w''=>a''=a'.put (ym ops k).dst v∧Below w'.heap.size w' w'') Q)(t:Obs P ops Q a w N0 G L (k+1) l)(hg:(ym ops k).guard=none:=by rfl):Obs P ops Q a w N0 G L k (sV v::l):=⟨fun a' w' E=>zi hg (h a' w' E),t⟩
theorem Obs.gval{v:Value}{j:Nat}{b:Bool}{tj:Nat}(hg:(ym ops k).guard=some (j,b))(hj:(ops[j]?).bind (·.dst)=some tj)(hb:∀ a' w',RE ops a w N0 G L k a' w'→a'.eval (.tmp tj)=.bool b)(h:∀ a' w',RE ops a w N0 G L k a' w'→(ym ops k).wp P a' w' (fun a'' w''=>a''=a'.put (ym ops k).dst v∧Below w'.heap.size w' w'') Q)(t:Obs P ops Q a w N0 G L (k+1) l):Obs P ops Q a w N0 G L k (sV v::l):=
 ⟨fun a' w' E=>by
  unfold wpG;have e:a'.tmps[tj]? = some (.bool b):=by
   have h1:=hb a' w' E;have h2:a'.tmps[tj]?.getD undef=.bool b:=by rw[← h1];simp[Act.eval]
   cases h3:a'.tmps[tj]? with
   | none=>rw[h3]at h2;cases h2
   | some v=>rw[h3]at h2;exact congrArg some h2
  rw[if_pos (by simp[Region.wanted,hg,yielded,hj,e])];exact h a' w' E,t⟩
theorem Obs.skip{j:Nat}{b b':Bool}{tj:Nat}(hg:(ym ops k).guard=some (j,b))(hj:(ops[j]?).bind (·.dst)=some tj)(hb:∀ a' w',RE ops a w N0 G L k a' w'→a'.eval (.tmp tj)=.bool b')(hne:b'≠b)(t:Obs P ops Q a w N0 G L (k+1) l):Obs P ops Q a w N0 G L k (sV undef::l):=
 ⟨fun a' w' E=>by
  unfold wpG;have e:a'.tmps[tj]? = some (.bool b'):=by
   have h1:=hb a' w' E;have h2:a'.tmps[tj]?.getD undef=.bool b':=by rw[← h1];simp[Act.eval]
   cases h3:a'.tmps[tj]? with
   | none=>rw[h3]at h2;cases h2
   | some v=>rw[h3]at h2;exact congrArg some h2
  rw[if_neg (by simp[Region.wanted,hg,yielded,hj,e,hne])];exact⟨rfl,Below.refl _ _⟩,t⟩
theorem Obs.skipU{j:Nat}{b:Bool}{tj:Nat}(hg:(ym ops k).guard=some (j,b))(hj:(ops[j]?).bind (·.dst)=some tj)(hb:∀ a' w',RE ops a w N0 G L k a' w'→a'.eval (.tmp tj)=undef)(t:Obs P ops Q a w N0 G L (k+1) l):Obs P ops Q a w N0 G L k (sV undef::l):=
 ⟨fun a' w' E=>by
  unfold wpG;have e:∀ b,a'.tmps[tj]? ≠ some (.bool b):=by
   intro b h3;have h1:=hb a' w' E;have h4:a'.eval (.tmp tj)=a'.tmps[tj]?.getD undef:=by simp[Act.eval]
   have h2:a'.tmps[tj]?.getD undef=undef:=by rw[← h4];exact h1
   rw[h3]at h2;cases h2
  have e2:yielded ops a'.tmps j=none:=by
   unfold yielded;rw[hj];show(match a'.tmps[tj]? with | some (.bool b)=>some b | _=>none)=none;split
   ·next b h=>exact absurd h (e b)
   ·rfl
  rw[if_neg (by simp[Region.wanted,hg,e2])];exact⟨rfl,Below.refl _ _⟩,t⟩
theorem Obs.alloc{f:Nat→Value}{st:Nat}{i e:Array Value}(h:∀ a' w',RE ops a w N0 G L k a' w'→(ym ops k).wp P a' w' (fun a'' w''=>a''=a'.put (ym ops k).dst (f w'.heap.size)∧∃ t,w''=w'.alloc (.cells i t)) Q)(t:Obs P ops Q a w N0 G L (k+1) l)(hg:(ym ops k).guard=none:=by rfl):Obs P ops Q a w N0 G L k (sA f st i e::l):=⟨fun a' w' E=>zi hg (h a' w' E),t⟩
theorem Obs.sta{al:Nat}{f:Nat→Value}{st:Nat}{i e:Array Value}(hL:L[al]? = some (sA f st i e))(h:∀ a' w' g,RE ops a w N0 G L k a' w'→(∀ t,newB ops a.tmps.size k t al=true→a'.eval (.tmp t)=f g)→zb w' g i→(ym ops k).wp P a' w' (fun a'' w''=>a''=a'.put (ym ops k).dst undef∧w''=w'.setRow g e) Q)(t:Obs P ops Q a w N0 G L (k+1) l)(hg:(ym ops k).guard=none:=by rfl):Obs P ops Q a w N0 G L k (sS al::l):=
 ⟨fun a' w' g f' st' i' e' h' E ha hr=>by
  rw[hL]at h';cases h';exact zi hg (h a' w' g E ha hr),t⟩
theorem Obs.stk{g:Nat}{i e:Array Value}(h:∀ a' w',RE ops a w N0 G L k a' w'→zb w' g i→(ym ops k).wp P a' w' (fun a'' w''=>a''=a'.put (ym ops k).dst undef∧w''=w'.setRow g e) Q)(t:Obs P ops Q a w N0 G L (k+1) l)(hg:(ym ops k).guard=none:=by rfl):Obs P ops Q a w N0 G L k (sK g i e::l):=⟨fun a' w' E hr=>zi hg (h a' w' E hr),t⟩
variable {o:Oper} {a':Act} {w':World}
theorem ob_row(ty:TypeId)(x:Operand)(ho:o.op=.load ty x){g:Nat}(hx:a'.eval x=.pointer (some ⟨g,0,none⟩)){c:Array Value}{n:Nat}{e:TypeId}(hr:zb w' g c)(hn:c.size=n)(hu:P.underlying ty=some (.array n e))(hi:(P.info? ty).map (·.size)=some n):o.wp P a' w' (fun a'' w''=>a''=a'.put o.dst (.agg c)∧Below w'.heap.size w' w'') Q:=
 wp_rowF ty x ho g hx hr hn hu hi ⟨rfl,Below.refl _ _⟩
theorem ob_val{v:Value}(h:(execOp a'.eval o).run P w'=.ok (.value v) w'):o.wp P a' w' (fun a'' w''=>a''=a'.put o.dst v∧Below w'.heap.size w' w'') Q:=zt h ⟨rfl,Below.refl _ _⟩
theorem ob_call{f:FuncId}{args:Array Value}{v:Value}(hrun:(execOp a'.eval o).run P w'=.ok (.enter f args) w')(hc:Calls P f args w' fun e w''=>e=.returned v∧Below w'.heap.size w' w'') :
  o.wp P a' w' (fun a'' w''=>a''=a'.put o.dst v∧Below w'.heap.size w' w'') Q:=qm hrun hc (fun _ hb=>⟨rfl,hb⟩)
theorem ob_alloc{v:Value}{i:Array Value}{t:TypeId}(h:(execOp a'.eval o).run P w'=.ok (.value v) (w'.alloc (.cells i t))):o.wp P a' w' (fun a'' w''=>a''=a'.put o.dst v∧∃ t,w''=w'.alloc (.cells i t)) Q:=zt h ⟨rfl,t,rfl⟩
theorem ob_store(ty:TypeId)(x y:Operand)(ho:o.op=.store ty x y){g:Nat}{c c':Array Value}{n:Nat}(hx:a'.eval x=.pointer (some ⟨g,0,none⟩))(hy:a'.eval y=.agg c')(hr:zb w' g c)(hn:c.size=n)(hn':c'.size=n)(h1:c'.all (·.oneCell')=true)(hi:(P.info? ty).map (·.size)=some n):o.wp P a' w' (fun a'' w''=>a''=a'.put o.dst undef∧w''=w'.setRow g c') Q:=zb5 ty x y ho g hx hy hr hn hn' h1 hi ⟨rfl,rfl⟩
end
theorem zb.fz{w:World}{g:Nat}{c:Array Value}(h:zb w g c)(j:Nat):w.frozen? ⟨g,j,none⟩=false:=by
 obtain⟨t,h⟩:=h;exact frozen_of_row w g j c t h
theorem zb.c4{w:World}{g:Nat}{a b c d:Value}(h:zb w g #[a,b,c,d]):w.cell? ⟨g,0,none⟩=some a∧w.cell? ⟨g,1,none⟩=some b∧w.cell? ⟨g,2,none⟩=some c∧w.cell? ⟨g,3,none⟩=some d:=⟨h.cell 0,h.cell 1,h.cell 2,h.cell 3⟩
theorem zb.c1{w:World}{g:Nat}{a:Value}(h:zb w g #[a]):w.cell? ⟨g,0,none⟩=some a:=h.cell 0
theorem zb.z4{w:World}{g:Nat}{c:Array Value}(h:zb w g c):w.frozen? ⟨g,0,none⟩=false∧w.frozen? ⟨g,1,none⟩=false∧w.frozen? ⟨g,2,none⟩=false∧w.frozen? ⟨g,3,none⟩=false:=⟨h.fz 0,h.fz 1,h.fz 2,h.fz 3⟩
theorem setRow2{w:World}{g:Nat}{c:Array Value}(h:zb w g c)(c1 c2:Array Value):(w.setRow g c1).setRow g c2=w.setRow g c2:=by
 obtain⟨t,h⟩:=h;unfold World.setRow
 congr 1
 apply Array.ext_getElem?;intro j;simp only[Array.getElem?_modify];by_cases hj:g=j
 ·subst hj;simp[h]
 ·simp[hj]
theorem setc4{w:World}{g:Nat}{c:Array Value}(h:zb w g c)(hn:c.size=4)(a b d e:Value) :
  (((w.setCell ⟨g,0,none⟩ a).setCell ⟨g,1,none⟩ b).setCell ⟨g,2,none⟩ d).setCell ⟨g,3,none⟩ e=w.setRow g #[a,b,d,e]:=by
 rw[h.setCell,(h.set_same _).setCell,setRow2 h,(h.set_same _).setCell,setRow2 h,(h.set_same _).setCell,setRow2 h]
 congr 1
 apply Array.ext_getElem?;intro j;simp only[Array.getElem?_setIfInBounds,Array.size_setIfInBounds,hn];have hc:j=0∨j=1∨j=2∨j=3∨4≤j:=by omega
 rcases hc with rfl|rfl|rfl|rfl|hj
 ·simp
 ·simp
 ·simp
 ·simp
 ·rw[if_neg (by omega),if_neg (by omega),if_neg (by omega),if_neg (by omega),Array.getElem?_eq_none (by omega),Array.getElem?_eq_none (by simpa using hj)]
theorem res2{P:Program}{fn:Func}{p q:Tmp}{ty ty2:TypeId}(h:fn.results=#[.cell p ty,.cell q ty2]){tmps:Array Value}{w:World}{g g2:Nat}{c c2:Array Value}{n n2:Nat}{e e2:TypeId}(h1:tmps.getD p undef=.pointer (some ⟨g,0,none⟩))(h2:tmps.getD q undef=.pointer (some ⟨g2,0,none⟩))(r1:zb w g c)(r2:zb w g2 c2)(n1:c.size=n)(n2':c2.size=n2)(hu:P.underlying ty=some (.array n e))(hi:(P.info? ty).map (·.size)=some n)(hu2:P.underlying ty2=some (.array n2 e2))(hi2:(P.info? ty2).map (·.size)=some n2) :
  (results fn tmps).run P w=.ok (.tuple #[.agg c,.agg c2]) w:=
 zak (P:=P) (fn:=fn) h { tmps:=tmps,defers:=[] } w h1 h2 r1 r2 n1 n2' hu hi hu2 hi2
structure RB (w w':World) (G:List (Nat×Array Value)):Prop where
 b:Below w.heap.size w w'
 r:zl w' G
theorem RB.at{w w':World}{G:List (Nat×Array Value)}(h:RB w w' G)(n:Nat){g:Nat}{c:Array Value}(e:G[n]? = some (g,c)):zb w' g c:=h.r.get n g c e
theorem zl.below{w w':World}(hb:Below w.heap.size w w'):∀{G:List (Nat×Array Value)},zl w G→zl w' G
 | [],_=>trivial
 | _::l,h=>⟨h.1.below hb,zl.below (G:=l) hb h.2⟩
theorem zl.old{w:World}{o:Obj}:∀{G:List (Nat×Array Value)},zl w G→zl (w.alloc o) G
 | [],_=>trivial
 | _::l,h=>⟨h.1.old,zl.old (G:=l) h.2⟩
def LtAll (n:Nat):List (Nat×Array Value)→Prop
 | []=>True
 | p::l=>p.1<n∧LtAll n l
theorem zl.lts{w:World}:∀{G:List (Nat×Array Value)},zl w G→LtAll w.heap.size G
 | [],_=>trivial
 | _::l,h=>⟨h.1.lt,zl.lts (G:=l) h.2⟩
theorem rb0(w:World):Hid (RB w w []):=⟨Below.refl _ _,trivial⟩
theorem rbB{w w' w'':World}{G:List (Nat×Array Value)}(h:Hid (RB w w' G))(hb:Below w'.heap.size w' w''):Hid (RB w w'' G):=⟨qo h.out.b hb,h.out.r.below hb⟩
theorem rbN{w w':World}{G:List (Nat×Array Value)}{g:Nat}{c:Array Value}{t:TypeId}(h:Hid (RB w w' G))(e:g=w'.heap.size):Hid (RB w (w'.alloc (.cells c t)) ((g,c)::G)):=⟨zj h.out.b _,zb.last e,h.out.r.old⟩
def zbf (g:Nat):Nat→List (Nat×Array Value)→Prop
 | _,[]=>True
 | 0,_::l=>y9 g l
 | n+1,p::l=>p.1≠g∧zbf g n l
theorem zl.other{w:World}{g:Nat}(c':Array Value):∀{G:List (Nat×Array Value)},zl w G→y9 g G→zl (w.setRow g c') G
 | [],_,_=>trivial
 | _::l,h,k=>⟨h.1.set_other _ (Ne.symm k.1),zl.other (G:=l) c' h.2 k.2⟩
theorem zl.put{w:World}{g:Nat}{c:Array Value}(c':Array Value):∀{G:List (Nat×Array Value)} (n:Nat),zl w G→G[n]? = some (g,c)→zbf g n G→zl (w.setRow g c') (G.set n (g,c'))
 | [],n,_,e,_=>by simp at e
 | p::l,0,h,e,k=>by
  simp at e;subst e;exact⟨h.1.set_same _,zl.other (G:=l) c' h.2 k⟩
 | p::l,n+1,h,e,k=>⟨h.1.set_other _ (Ne.symm k.1),zl.put (G:=l) c' n h.2 (by simpa using e) k.2⟩
theorem rbS{w w':World}{G:List (Nat×Array Value)}(h:Hid (RB w w' G))(n:Nat){g:Nat}{c:Array Value}(c':Array Value)(e:G[n]? = some (g,c))(hB:w.heap.size≤g)(k:zbf g n G):Hid (RB w (w'.setRow g c') (G.set n (g,c'))):=
 ⟨zf h.out.b hB _,zl.put c' n h.out.r e k⟩
theorem zbf.nil{g n:Nat}:zbf g n []:=by cases n<;>trivial
theorem zbf.here{g:Nat}{p:Nat×Array Value}{l:List (Nat×Array Value)}(h:y9 g l):zbf g 0 (p::l):=h
theorem zbf.cons{g g' n:Nat}{c:Array Value}{l:List (Nat×Array Value)}(h:g'≠g)(t:zbf g n l):zbf g (n+1) ((g',c)::l):=⟨h,t⟩
abbrev Ar (n:Nat):Array Value:=#[B (l0 n),B (l1 n),B (l2 n),B (l3 n)]
abbrev Zr:Array Value:=#[.int .u64 0,.int .u64 0,.int .u64 0,.int .u64 0]
abbrev qv (f:Nat) (args:Array Value) (v:Value):Prop:=Hid (∀ w,Calls prog f args w fun e w'=>e=.returned v∧Below w.heap.size w w')
end Go.Proofs.YthkpgfbjdabflaaGreatDoor
