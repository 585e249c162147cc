/- Laid one behind the other: Ta, Tb, Ad, Tc, Td. -/
import Derived.Test.YtdeompgdhaomgaaGreatDoorKtUf
namespace Go.Proofs.YtdeompgdhaomgaaGreatDoor
open Go.RowKit Go.Sort Go.Proofs.Tryz
set_option linter.unusedVariables false
set_option maxRecDepth 100000
set_option maxHeartbeats 4000000
section
variable {P:Program} {J:World→Prop} {F:Nat→Prop} {ds:List Deferred} {β:Nat→Nat} {c:Cf} {a:Act} {w:World} {Q:Exit→Act→World→Prop}
def evF (tm:Vs):Operand→Option SV
 | .func f=>some (Sum.inl (.func (.func f) #[] #[]))
 | x=>evQ tm x
def calF (tm:Vs):Operand→Option (Nat×List Value)
 | .func f=>some (f,[])
 | x=>match evQ tm x with
  | some (Sum.inl (.func (.func f) fs cs))=>if fs=#[]then some (f,cs.toList)else none
  | _=>none
def callX (c:Cf):Option (Nat×List SV):=match kq c with
 | some o=>match o.op with
  | .call { callee:=.value x,args:=xs,argTypes:=_ }=>match calF c.tm x with
   | some (f,cs)=>(xs.toList.mapM (evF c.tm)).map fun ss=>(f,ss++cs.map Sum.inl)
   | none=>none
  | _=>none
 | none=>none
theorem evF_eval{tm:Vs}(ha:a.tmps=(tm.map (upO β)).toArray){x:Operand}{s:SV}(h:evF tm x=some s):a.eval x=up β s:=by
 cases x with
 | func f=>simp only[evF,Option.some.injEq]at h;subst h;rfl
 | const v=>exact xn ha h
 | tmp t=>exact xn ha h
 | global g=>exact xn ha h
theorem calF_eval{tm:Vs}(ha:a.tmps=(tm.map (upO β)).toArray){x:Operand}{f:Nat}{cs:List Value}(h:calF tm x=some (f,cs)):a.eval x=.func (.func f) #[] cs.toArray:=by
 have key:∀ x,(match evQ tm x with | some (Sum.inl (.func (.func f) fs cs))=>if fs=#[]then some (f,cs.toList)else none | _=>none)=some (f,cs)→a.eval x=.func (.func f) #[] cs.toArray:=by
  intro x h;split at h
  ·next f' fs cs' hx=>
   split at h
   ·next hfs=>
    cases h;subst hfs;rw[xn ha hx];rfl
   ·cases h
  ·cases h
 cases x with
 | func f'=>simp only[calF,Option.some.injEq,Prod.mk.injEq]at h;obtain⟨rfl,rfl⟩:=h;rfl
 | const v=>exact key _ h
 | tmp t=>exact key _ h
 | global g=>exact key _ h
theorem mapF_ok{tm:Vs}(ha:a.tmps=(tm.map (upO β)).toArray):∀{xs:List Operand} {ss:List SV},xs.mapM (evF tm)=some ss→xs.map a.eval=ss.map (up β)
 | [],vs,h=>by simp at h;subst h;rfl
 | x::xs,vs,h=>by
  rw[List.mapM_cons]at h;cases h1:evF tm x with
  | none=>rw[h1]at h;simp at h
  | some v=>
   cases h2:xs.mapM (evF tm)with
   | none=>rw[h1,h2]at h;simp at h
   | some us=>
    rw[h1,h2]at h;simp at h;subst h;rw[List.map_cons,mapF_ok ha h2,evF_eval ha h1];rfl
theorem fv_any{f : Nat}{fn : Func}(hf : P.funcs[f]? = some fn)(hb : fn.body.isNone = false)(hn : (fn.name == "runtime.NumGoroutine") = false){x : Operand}{cs : Array Value}(hx : a.eval x = .func (.func f) #[] cs)(xs : Array Operand)(ts : Array TypeId)(ty : TypeId)(w : World) : (do let d ← resolve a.eval { callee := .value x, args := xs, argTypes := ts } ty; invoke d.target d.args : Sem Next).run P w = .ok (.enter f (xs.map a.eval ++ cs)) w := by
 have h:(callFunc f (xs.map a.eval++cs)).run P w=.ok (.enter f (xs.map a.eval++cs)) w:=by
  have h1 : ¬ fn.name = "runtime.NumGoroutine" := by simpa using hn
  have h2:¬ fn.body=none:=by intro h;rw[h]at hb;cases hb
  unfold callFunc;simp[go_sem,hf,h1,h2]
 have h3:(resolve a.eval { callee:=.value x,args:=xs,argTypes:=ts } ty).run P w=.ok { target:=.fn (.func f) cs,args:=xs.map a.eval } w:=by
  unfold resolve;simp only[hx,Deferred.ofValue,Sem.run_pure,Array.empty_append]
 rw[Sem.run_bind,h3,Result.andThen_ok];unfold invoke;exact h
theorem zcb{f : Nat}{fn : Func}(ss : List SV)(hf : P.funcs[f]? = some fn)(I : SI J F ds β c a w)(h : Calls P f (ss.map (up β)).toArray w (CallE P Q c a))(hc : callX c = some (f, ss) := by kernel_rfl)(hb : fn.body.isNone = false := by kernel_rfl)(hn : (fn.name == "runtime.NumGoroutine") = false := by kernel_rfl) : At P Q c a w := by
 unfold callX at hc;split at hc
 ·next o ho=>
  obtain⟨hd,⟨rest,hr⟩,hw⟩:=vq ho;refine zbb hd hr (v7 I hw) ?_;split at hc
  ·next x xs ts hop=>
   split at hc
   ·next g cs hg=>
    simp only[Option.map_eq_some_iff,Prod.mk.injEq]at hc;obtain⟨ss',hm,rfl,rfl⟩:=hc;have hx:=mapF_ok I.fr hm;have he:(execOp a.eval o).run P w=.ok (.enter g (xs.map a.eval++cs.toArray)) w:=by
     unfold execOp;simp only[hop];exact fv_any hf hb hn (calF_eval I.fr hg) xs ts o.type w
    have hxa:xs.map a.eval++cs.toArray=((ss'++cs.map Sum.inl).map (up β)).toArray:=by
     apply Array.ext';simp only[Array.toList_append,Array.toList_map,hx,List.map_append,List.map_map]
     congr 1
     exact(List.map_id cs).symm
    unfold Oper.wp;rw[he,hxa,Oper.upon_enter];refine h.mono fun e w' he=>?_;cases e with
    | returned v=>
     have he':At P Q (xa c v) (a.put (yu c) v) w':=he;replace he':=he'.out;unfold AtD at he';simp only[xa,qz,hd,yu,hr,List.tail_cons,List.head?_cons,Option.bind_some]at he';exact he'
    | panicked ch=>exact k8 he
    | outgrown=>exact he.elim
   ·cases hc
  ·cases hc
 ·cases hc
theorem bcallX{f : Nat}{fn : Func}(ss : List SV)(hf : P.funcs[f]? = some fn)(R : yw J F)(I : SI J F ds β c a w)(post : Value → Prop)(hcall : Calls P f (ss.map (up β)).toArray w fun e w' => Below w.heap.size w w' ∧ ∃ v, e = .returned v ∧ post v)(k : ∀ v w', post v → SI J F ds β (xa c v) (a.put (yu c) v) w' → At P Q (xa c v) (a.put (yu c) v) w')(hc : callX c = some (f, ss) := by kernel_rfl)(hb : fn.body.isNone = false := by kernel_rfl)(hn : (fn.name == "runtime.NumGoroutine") = false := by kernel_rfl) : At P Q c a w := by
 refine zcb ss hf I (hcall.mono fun e w' he=>?_) hc hb hn;obtain⟨hbl,v,rfl,hv⟩:=he;exact k v w' hv (I.moved (zi.of_below hbl) (R.loc w w' I.hJ (zi.of_below hbl)) (fun _ _ h=>h) v)
def mfX (c:Cf):Option (Fn×List SV):=match kq c with
 | some o=>match o.op with
  | .makeFunc fn fs cs=>if fs=#[]then(cs.toList.mapM (evQ c.tm)).map fun ss=>(fn,ss)else none
  | .assign (.func f)=>some (.func f,[])
  | _=>none
 | none=>none
theorem mkfX{fn:Fn}{ss:List SV}(I:SI J F ds β c a w)(k:At P Q (xa c (.func fn #[] (ss.map (up β)).toArray)) (a.put (yu c) (.func fn #[] (ss.map (up β)).toArray)) w)(hc:mfX c=some (fn,ss):=by kernel_rfl):At P Q c a w:=by
 unfold mfX at hc;split at hc
 ·next o ho=>
  split at hc
  ·next fn' fs cs hop=>
   split at hc
   ·next hfs=>
    simp only[Option.map_eq_some_iff,Prod.mk.injEq]at hc;obtain⟨ss',hm,rfl,rfl⟩:=hc;refine vstep ho I (w':=w) ?_ k;have hx:=mapS_ok I.fr hm;have hxa:cs.map a.eval=(ss'.map (up β)).toArray:=by rw[← hx];apply Array.ext';simp
    subst hfs;unfold execOp;simp[hop,Instr.makeFunc,hxa,Sem.run_pure]
   ·cases hc
  ·next f hop=>
   cases hc;refine vstep ho I (w':=w) ?_ k;unfold execOp;simp only[hop,Sem.run_pure];rfl
  ·cases hc
 ·cases hc
end
section
variable {P:Program} {T:World→Prop} {fo:Nat→Nat→Option Nat} {io:Nat→Int→Option Nat} {ze:Nat→Option (Array Value)} {ops:Array Oper} {tm:Vs} {rows:Rows} {sp:Spt}
theorem store_put{o:Oper}{t:TypeId}{x y:Operand}(hop:o.op=.store t x y){a:Act}{w:World}{K:Act→World→Prop}{Q:Exit→Act→World→Prop}(h:o.wp P a w K Q):o.wp P a w (fun a'' w''=>a''=a.put o.dst undef∧K a'' w'') Q:=by
 unfold Oper.wp at h ⊢;have he:∀ r,(execOp a.eval o).run P w=r→(∃ w',r=.ok .skip w')∨(∃ s w',r=.halt s w'):=by
  intro r hr;unfold execOp at hr;simp only[hop,Sem.run_bind]at hr;cases hq:(Instr.storeAt t (a.eval x) (a.eval y)).run P w with
  | ok u w'=>rw[hq]at hr;exact .inl ⟨w',by rw[← hr];rfl⟩
  | halt s w'=>rw[hq]at hr;exact .inr ⟨s,w',by rw[← hr];rfl⟩
 generalize hr:(execOp a.eval o).run P w=r at h ⊢;rcases he r hr with⟨w',rfl⟩|⟨s,w',rfl⟩
 ·exact⟨rfl,h⟩
 ·cases s<;>exact h
def lastW (ops:Array Oper):Bool:=(match ops[ops.size-1]? with | some o=>o.guard.isNone&&o.dst.isNone&&(match o.op with | .store .. =>true | _=>false) | none=>false)&&(List.range (ops.size-1)).all fun j=>ya ops (ops.size-1) j
abbrev spL (ops:Array Oper) (sp:Spt):Spt:=sp++[(ops.size-1,none)]
theorem drawL{J:World→Prop}{F:Nat→Prop}{ds:List Deferred}{β:Nat→Nat}{c:Cf}{a:Act}{w:World}{Q:Exit→Act→World→Prop}(Y:Ty P fo io ze)(R:yw J F)(hT:∀ w,J w→T w){ks:List Ki}{fs us:List (Fa P T)}{vals:Vs}{e:List (Value×Value)}(V:Nat→Value→World→Prop)(hV:∀ i v w w',V i v w→Below w.heap.size w w'→V i v w')(hc:drQ c=some (ops,ks))(hg:goS P T fo io (spL ops sp) ops c.tm c.rows ops.toList 0 [] fs=some (vals,us,e))(he:∀ p∈e,p.1=p.2)(hb:qi ops=true)(hB:kn ops=true)(hgs:gsB ops (spL ops sp)=true)(hds:dstB ops c.tm.length=true)(hids:xo (tmS ops (spL ops sp) c.tm vals fun _=>undef) c.nx=true)(hla:lastW ops=true)(hsn:(sp.all fun p=>p.1 != ops.size-1)=true)(I:SI J F ds β c a w)(hsp:∀ i x o,yi sp i=some x→ops[i]? = some o→∀ za vs a' w',Frm ops vs a za a'→i∈Region.ready .any ops za→Below w.heap.size w w'→(∀ q∈sp,za.getD q.1 false=true→V q.1 (vs q.1) w')→(∀ x s,evS ops c.tm (vals.take i) i x=some s→a'.eval x=up β s) →
   wpG ops o P a' w' (fun a'' w''=>∃ v,a''=a'.put o.dst v∧(∀ u,x=some u→v=u)∧V i v w''∧Below w'.heap.size w' w'') (QK P Q ks))(k:∀ vs a' w',(∀ q∈sp,q.1<ops.size→V q.1 (vs q.1) w')→SI J F ds β { ops:=ops,rest:=ops.toList.drop (ops.size-1),ks:=ks,tm:=tmS ops (spL ops sp) c.tm vals vs,rows:=c.rows,nx:=c.nx,dn:=none } a' w'→At P Q { ops:=ops,rest:=ops.toList.drop (ops.size-1),ks:=ks,tm:=tmS ops (spL ops sp) c.tm vals vs,rows:=c.rows,nx:=c.nx,dn:=none } a' w'):At P Q c a w:=by
 obtain⟨hvl,_,hspec⟩:=zbz (k:=0) (v0:=[]) rfl hg he;have htm:a.tmps.size=c.tm.length:=by rw[I.fr];simp
 have dl:∀ t j,wr ops t=some j→t<a.tmps.size:=fun t j h=>by rw[htm];exact dstB_ok hds h
 have hsv:∀ j x,yi (spL ops sp) j=some x→j<ops.size→vals[j]? = some (x.map Sum.inl):=fun j x hx hj=>by
  have:=(hspec j ops[j] (by simp[hj])).1 x (by rw[Nat.zero_add];exact hx)
  rwa [Nat.zero_add]at this
 unfold lastW at hla;simp only[Bool.and_eq_true,List.all_eq_true,List.mem_range]at hla;obtain⟨hla1,hla2⟩:=hla;obtain⟨oL,hoL,hLg,hLd,tL,xL,yL,hLop⟩:∃ o,ops[ops.size-1]? = some o∧o.guard=none∧o.dst=none∧∃ t x y,o.op=.store t x y:=by
  split at hla1
  ·next o ho=>
   simp only[Bool.and_eq_true,Option.isNone_iff_eq_none]at hla1;refine⟨o,ho,hla1.1.1,hla1.1.2,?_⟩;have h3:=hla1.2;cases hop:o.op<;>rw[hop]at h3<;>simp at h3;exact⟨_,_,_,rfl⟩
  ·cases hla1
 have hL1:ops.size-1<ops.size:=(Array.getElem?_eq_some_iff.1 hoL).1;have spn:∀ i x,yi sp i=some x→yi (spL ops sp) i=some x:=fun i x h=>by
  unfold yi at h ⊢;rw[List.find?_append];rw[Option.map_eq_some_iff]at h;obtain⟨p,h1,h2⟩:=h;rw[h1];exact congrArg some h2
 have spi:∀ i x,yi (spL ops sp) i=some x→i=ops.size-1∨yi sp i=some x:=fun i x h=>by
  unfold yi at h ⊢;rw[List.find?_append]at h;cases hq:sp.find? fun p=>p.1 == i with
  | some p=>rw[hq]at h;exact .inr h
  | none=>
   rw[hq]at h;simp only[Option.none_or,List.find?_cons,List.find?_nil]at h;by_cases hi:(ops.size-1 == i)=true
   ·exact .inl (beq_iff_eq.1 hi).symm
   ·simp[hi]at h
 have spl:∀ x,yi sp (ops.size-1)=some x→False:=fun x h=>by
  have:=List.all_eq_true.1 hsn _ (za1 h);simp at this
 have wlast:∀ j,wr ops j=some (ops.size-1)→False:=fun t ht=>by
  have h1:=(zb4 ht).1;rw[hoL]at h1;simp only[Option.bind_some,hLd]at h1;cases h1
 let V':Nat→Value→World→Prop:=fun i v w=>i=ops.size-1∨V i v w
 have hV':∀ i v w w',V' i v w→Below w.heap.size w w'→V' i v w':=fun i v w w' h hb=>h.imp id fun h=>hV i v w w' h hb
 have hfr:∀ za vs a' w',(∀ j,j<ops.size-1→za.getD j false=true)→Frm ops vs a za a'→DS ops (spL ops sp) β vals V' w za vs w'→a'.tmps=((tmS ops (spL ops sp) c.tm vals vs).map (upO β)).toArray:=by
  intro za vs a' w' hd hF D;apply Array.ext_getElem?;intro t;by_cases ht:t<a.tmps.size
  ·have ht':t<c.tm.length:=by omega
   rw[hF.2.2 t ht];have e0:a.tmps[t]? = some (upO β (c.tm[t]?).join):=by
    rw[I.fr];simp[List.getElem?_eq_getElem ht']
   simp only[List.getElem?_toArray,tmS,List.getElem?_map,List.getElem?_range ht',Option.map_some];cases hw:wr ops t with
   | none=>exact e0
   | some j=>
    have hj:=(zb4 hw).2;have hj2:j<ops.size-1:=by
     rcases Nat.lt_or_ge j (ops.size-1)with h|h
     ·exact h
     ·have:j=ops.size-1:=by omega
      subst this;exact(wlast t hw).elim
    simp only[];rw[if_pos (hd j hj2)];cases hs:yi (spL ops sp) j with
    | none=>simp only[];rw[D.rk j (hd j hj2) hs]
    | some x=>rfl
  ·rw[Array.getElem?_eq_none (by have:=hF.2.1;omega),Array.getElem?_eq_none (by simp[tmS];omega)]
 refine at_reg Y.hm hc ?_;refine vu hb hB (fun za vs w'=>(za.getD (ops.size-1) false=false∧DS ops (spL ops sp) β vals V' w za vs w')∨(za.getD (ops.size-1) false=true∧(∀ j,j<ops.size-1→za.getD j false=true)∧∀ a',Frm ops vs a za a'→QK P Q ks .normal a' w')) ?_ ?_ ?_
 ·intro w1 h1;have hf:∀ j,¬ (Array.replicate ops.size false).getD j false=true:=fun j h=>by
   rw[Array.getD_eq_getD_getElem?,Array.getElem?_replicate]at h;split at h<;>simp at h
  refine .inl ⟨by simpa using hf (ops.size-1),?_,fun j k _ h=>absurd h (hf k),fun j h=>absurd h (hf j),fun j x h=>absurd h (hf j)⟩;rcases h1 with rfl | rfl
  ·exact Below.refl _ _
  ·exact⟨rfl,rfl,rfl,Nat.le_refl _,fun _ _=>rfl⟩
 ·intro za vs a' w' i o hs ho hi hF D;have hun:=zai hi hs;have hio:i<ops.size:=(Array.getElem?_eq_some_iff.1 ho).1;rcases D with⟨hLn,D⟩|⟨h1,h2,_⟩
  case inr=>
   exfalso;rcases Nat.lt_or_ge i (ops.size-1)with h|h
   ·exact hun (h2 i h)
   ·have:i=ops.size-1:=by omega
    subst this;exact hun h1
  have hev:∀ x s,evS ops c.tm (vals.take i) i x=some s→a'.eval x=up β s:=fun x s h=>evF_ok D hsv hF I.fr hs hi h
  by_cases hiL:i=ops.size-1
  ·subst hiL;obtain rfl:o=oL:=Option.some.inj (ho.symm.trans hoL);have hall:∀ j,j<ops.size-1→za.getD j false=true:=fun j hj=>zk (hla2 j hj) hi
   have:=(k vs a' w' (fun q hq hl=>by
    obtain⟨y,hy⟩:=zbt hq;have hql:q.1<ops.size-1:=by
     rcases Nat.lt_or_ge q.1 (ops.size-1)with h|h
     ·exact h
     ·have e:q.1=ops.size-1:=by omega
      rw[e]at hy;exact(spl _ hy).elim
    rcases(D.sv q.1 y (hall q.1 hql) (spn _ _ hy)).1 with h|h
    ·omega
    ·exact h) ⟨hfr za vs a' w' hall hF D,hF.1.trans I.df,R.loc w w' I.hJ (zi.of_below D.bw),fun p hp=>(I.row p hp).below D.bw,I.dis,I.lt,I.inj,ids_tmS hids⟩).out
   unfold AtD at this;simp only[]at this;have hdrop:ops.toList.drop (ops.size-1)=[o]:=by
    have h1:ops.toList[ops.size-1]? = some o:=by simpa using hoL
    obtain⟨hlt,hge⟩:=List.getElem?_eq_some_iff.1 h1;rw[List.drop_eq_getElem_cons hlt,hge,List.drop_eq_nil_of_le (by simp;omega)]
   rw[hdrop]at this;have hwn:Region.wanted o (yielded ops a'.tmps)=true:=by unfold Region.wanted;rw[hLg]
   unfold wpG;rw[if_pos hwn];unfold wpL at this;rw[if_pos hwn]at this;refine Oper.wp_mono ?_ (store_put hLop this);rintro a2 w2 ⟨rfl,h3⟩;refine⟨undef,rfl,.inr ⟨?_,fun j hj=>z6 (hall j hj),fun a3 hF3=>?_⟩⟩
   ·rw[Array.getD_eq_getD_getElem?,Array.getElem?_setIfInBounds,if_pos rfl,if_pos (by omega)];rfl
   ·have hst:=hF.step hs ho (qp hB ho) (fun h=>hun h) undef;have hal:∀ j,j<ops.size→(za.setIfInBounds (ops.size-1) true).getD j false=true:=fun j hj=>by
     rcases Nat.lt_or_ge j (ops.size-1)with h|h
     ·exact z6 (hall j h)
     ·have:j=ops.size-1:=by omega
      subst this;rw[Array.getD_eq_getD_getElem?,Array.getElem?_setIfInBounds,if_pos rfl,if_pos (by omega)];rfl
    rw[hF3.all hal,← hst.all hal];unfold wpL at h3;exact h3
  have hLs:∀(v:Value) w2,DS ops (spL ops sp) β vals V' w (za.setIfInBounds i true) (fun j=>if j=i then v else vs j) w2→((za.setIfInBounds i true).getD (ops.size-1) false=false∧DS ops (spL ops sp) β vals V' w (za.setIfInBounds i true) (fun j=>if j=i then v else vs j) w2)∨((za.setIfInBounds i true).getD (ops.size-1) false=true∧(∀ j,j<ops.size-1→(za.setIfInBounds i true).getD j false=true)∧∀ a',Frm ops (fun j=>if j=i then v else vs j) a (za.setIfInBounds i true) a'→QK P Q ks .normal a' w2):=by
   intro v w2 D2;refine .inl ⟨?_,D2⟩;have:¬ (za.setIfInBounds i true).getD (ops.size-1) false=true:=fun h=>by
    rcases zm h with h|h
    ·exact hiL h.symm
    ·rw[hLn]at h;cases h
   simpa using this
  have wt':∀ j k,ya ops k j=true→(za.setIfInBounds i true).getD k false=true→(za.setIfInBounds i true).getD j false=true:=fun j k hw hk=>by
   rcases zm hk with rfl|hk
   ·exact z6 (zk hw hi)
   ·exact z6 (D.wt j k hw hk)
  cases hsi:yi (spL ops sp) i with
  | some x=>
   have hsi':yi sp i=some x:=(spi i x hsi).resolve_left hiL;refine yq (fun a'' w'' h=>?_) (hsp i x o hsi' ho za vs a' w' hF hi D.bw (fun q hq hl=>by
    obtain⟨y,hy⟩:=zbt hq;rcases(D.sv q.1 y hl (spn _ _ hy)).1 with h|h
    ·rw[h,hLn]at hl;cases hl
    ·exact h) hev)
   obtain⟨v,rfl,h1,h2,h3⟩:=h;refine⟨v,rfl,hLs v w'' ⟨D.bw.trans (h3.mono D.bw.size),wt',fun j hj hn=>?_,fun j y hj hy=>?_⟩⟩
   ·have hji:j≠i:=fun e=>by rw[e,hsi]at hn;cases hn
    simp only[if_neg hji];exact D.rk j ((zm hj).resolve_left hji) hn
   ·by_cases hji:j=i
    ·subst hji;rw[hsi]at hy;cases hy;simp only[if_true];exact⟨.inr h2,h1⟩
    ·simp only[if_neg hji];obtain⟨a1,a2⟩:=D.sv j y ((zm hj).resolve_left hji) hy;exact⟨hV' j _ _ _ a1 h3,a2⟩
  | none=>
   obtain⟨f,s,e',hq,he',hvi⟩:=(hspec i o (by simpa using ho)).2 (by rw[Nat.zero_add];exact hsi);rw[Nat.zero_add]at hq hvi
   have next:∀ v w2,v=upO β s→Below w'.heap.size w' w2→∃ v',a'.put o.dst v=a'.put o.dst v'∧(((za.setIfInBounds i true).getD (ops.size-1) false=false∧DS ops (spL ops sp) β vals V' w (za.setIfInBounds i true) (fun j=>if j=i then v' else vs j) w2)∨((za.setIfInBounds i true).getD (ops.size-1) false=true∧(∀ j,j<ops.size-1→(za.setIfInBounds i true).getD j false=true)∧∀ a',Frm ops (fun j=>if j=i then v' else vs j) a (za.setIfInBounds i true) a'→QK P Q ks .normal a' w2)):=by
    intro v w2 hv hb2;refine⟨v,rfl,hLs v w2 ⟨D.bw.trans (hb2.mono D.bw.size),wt',fun j hj hn=>?_,fun j y hj hy=>?_⟩⟩
    ·by_cases hji:j=i
     ·subst hji;simp only[if_true];rw[hvi,hv];rfl
     ·simp only[if_neg hji];exact D.rk j ((zm hj).resolve_left hji) hn
    ·have hji:j≠i:=fun e=>by rw[e,hsi]at hy;cases hy
     simp only[if_neg hji];obtain⟨a1,a2⟩:=D.sv j y ((zm hj).resolve_left hji) hy;exact⟨hV' j _ _ _ a1 hb2,a2⟩
   have hgo:∀ j b,o.guard=some (j,b)→yi (spL ops sp) j=none:=fun j b hg=>by
    unfold gsB at hgs;have:=Array.all_eq_true.1 hgs i hio;rw[Array.getElem?_eq_some_iff]at ho;obtain⟨_,ho⟩:=ho;rw[ho,hg]at this;simpa using this
   unfold qop at hq;split at hq
   ·next hw=>
    cases hq;have hnw:=vh D hsv hF hB dl hi hgo hw;unfold wpG;rw[hnw];simp only[Bool.false_eq_true,if_false];exact next undef w' rfl (Below.refl _ _)
   ·cases hq
   ·next hw=>
    have hnw:=vh D hsv hF hB dl hi hgo hw;unfold wpG;rw[hnw];simp only[if_true];have hJ':J w':=R.loc w w' I.hJ (zi.of_below D.bw);have hevL:∀{xs:List Operand} {us:List Value},(xs.mapM fun x=>plain (evS ops c.tm (vals.take i) i x))=some us→xs.map a'.eval=us:=by
     intro xs
     induction xs with
     | nil=>intro us h;simp at h;subst h;rfl
     | cons x xs ih=>
      intro us h;rw[List.mapM_cons]at h;cases h1:plain (evS ops c.tm (vals.take i) i x)with
      | none=>rw[h1]at h;simp at h
      | some v=>
       cases h2:(xs.mapM fun x=>plain (evS ops c.tm (vals.take i) i x))with
       | none=>rw[h1,h2]at h;simp at h
       | some us'=>
        rw[h1,h2]at h;simp at h;subst h;rw[List.map_cons,ih h2,hev _ _ (zp h1)];rfl
    split at hq
    ·simp only[Option.map_eq_some_iff,Prod.mk.injEq]at hq;obtain⟨sv,hn,rfl,rfl⟩:=hq;exact zb3 Y hev (fun id r h=>(I.row _ (zy h)).below D.bw) hn fun w2 hb2=>next _ w2 rfl hb2
    ·next f=>
     split at hq
     ·next g xs ts hop=>
      split at hq
      ·next hfg=>
       subst hfg;simp only[Option.map_eq_some_iff,Prod.mk.injEq]at hq;obtain⟨us',hm2,rfl,rfl⟩:=hq;have h1:=hevL hm2;have h2:=he' _ (List.mem_singleton.2 rfl);simp only[Value.tuple.injEq]at h2;refine Oper.wp_mono ?_ (zae f.f xs ts hop (vs:=f.args) ?_ (f.hr xs ts) (f.hc w' (hT w' hJ')))
       ·rintro a2 w2 ⟨rfl,hb2⟩;exact next _ w2 rfl hb2
       ·rw[← h2,← h1];apply Array.ext';simp
      ·cases hq
     ·cases hq
    ·next f=>
     split at hq
     ·next hok=>
      simp only[Option.map_eq_some_iff,Prod.mk.injEq]at hq;obtain⟨us',hm2,rfl,rfl⟩:=hq;have h1:=hevL hm2;have h2:=he' _ (List.mem_singleton.2 rfl);simp only[Value.tuple.injEq]at h2;exact xb (f.h a' w' o (.inr (hT w' hJ')) hok (by rw[h1,h2])) (next _ w' rfl (Below.refl _ _))
     ·cases hq
 ·intro za vs a' w' hd hF D;rcases D with⟨h1,_⟩|⟨_,_,h⟩
  ·rw[hd _ hL1]at h1;cases h1
  ·exact h a' hF
end
section
variable {P:Program} {J:World→Prop} {F:Nat→Prop} {ds:List Deferred} {β:Nat→Nat} {c:Cf} {a:Act} {w:World} {Q:Exit→Act→World→Prop}
def dlX (P:Program) {T:World→Prop} (sp:Spt) (fs:List (Fa P T)) (c:Cf):Option (Vs×List (Value×Value)):=
 match drQ c with
 | some (ops,ks)=>match goS P T (foV P) (ioV P) (spL ops sp) ops c.tm c.rows ops.toList 0 [] fs with
  | some (vals,us,e)=>if(qi ops&&kn ops&&gsB ops (spL ops sp)&&dstB ops c.tm.length&&xo (tmS ops (spL ops sp) c.tm vals fun _=>undef) c.nx&&lastW ops&&(sp.all fun p=>p.1 != ops.size-1))=true then some (vals,e)else none
  | none=>none
 | none=>none
abbrev valsL (P:Program) {T:World→Prop} (sp:Spt) (fs:List (Fa P T)) (c:Cf):Vs:=((dlX P sp fs c).map (·.1)).getD []
abbrev dlC (P:Program) {T:World→Prop} (sp:Spt) (fs:List (Fa P T)) (c:Cf) (vs:Nat→Value):Cf:={ ops:=z9 c,rest:=(z9 c).toList.drop ((z9 c).size-1),ks:=ksD c,tm:=tmS (z9 c) (spL (z9 c) sp) c.tm (valsL P sp fs c) vs,rows:=c.rows,nx:=c.nx,dn:=none }
theorem dwL{T:World→Prop}(sp:Spt)(fs:List (Fa P T))(V:Nat→Value→World→Prop)(hV:∀ i v w w',V i v w→Below w.heap.size w w'→V i v w')(R:yw J F)(hT:∀ w,J w→T w)(I:SI J F ds β c a w)(hsp:∀ p∈sp,∀ o,(z9 c)[p.1]? = some o→∀ za vs a' w',Frm (z9 c) vs a za a'→p.1∈Region.ready .any (z9 c) za→Below w.heap.size w w'→(∀ q∈sp,za.getD q.1 false=true→V q.1 (vs q.1) w')→(∀ x s,evS (z9 c) c.tm ((valsL P sp fs c).take p.1) p.1 x=some s→a'.eval x=up β s) →
   wpG (z9 c) o P a' w' (fun a'' w''=>∃ v,a''=a'.put o.dst v∧(∀ u,p.2=some u→v=u)∧V p.1 v w''∧Below w'.heap.size w' w'') (QK P Q (ksD c)))(k:∀ vs a' w',(∀ q∈sp,q.1<(z9 c).size→V q.1 (vs q.1) w')→SI J F ds β (dlC P sp fs c vs) a' w'→At P Q (dlC P sp fs c vs) a' w')(hm:P.follows .mixedOrders=true:=by kernel_rfl)(hs:(dlX P sp fs c).isSome=true:=by kernel_rfl)(he:(dlX P sp fs c).map (fun r=>r.2.map (·.1))=(dlX P sp fs c).map (fun r=>r.2.map (·.2)):=by kernel_rfl):At P Q c a w:=by
 cases hx:dlX P sp fs c with
 | none=>rw[hx]at hs;cases hs
 | some r=>
  unfold valsL at hsp;unfold dlC valsL at k;rw[hx]at he k hsp;unfold dlX at hx;unfold z9 ksD at hsp k;split at hx
  ·next ops ks hc=>
   rw[hc]at hsp k;split at hx
   ·next vals us e hg=>
    split at hx
    ·next hb=>
     cases hx;simp only[Option.map_some,Option.some.injEq,Option.getD_some]at he k hsp;simp only[Bool.and_eq_true]at hb;exact drawL (ty_ok hm) R hT V hV hc hg (zb2 he) hb.1.1.1.1.1.1 hb.1.1.1.1.1.2 hb.1.1.1.1.2 hb.1.1.1.2 hb.1.1.2 hb.1.2 hb.2 I (fun i x o hx ho=>hsp (i,x) (za1 hx) o ho) k
    ·cases hx
   ·cases hx
  ·cases hx
end
abbrev Cl (α:Type):Type:=(Nat→Prop)→World→α→List Value→Prop
def SlI {α:Type} (sz:Nat) (C:Cl α) (K:Nat→Prop) (w:World) (v:Value) (l:List α):Prop:=
 ∃ ad cap,v=.slice ad l.length cap∧∀(i:Nat) (x:α),l[i]? = some x→∃ g off cs,ad=some ⟨g,off,none⟩∧K g∧zo w g (off+i*sz) cs∧C K w x cs
structure Loc {α:Type} (C:Cl α):Prop where
 keep:∀(K K':Nat→Prop) (w w':World) (x:α) (cs:List Value),(∀ k,K k→K' k∧w'.heap[k]? = w.heap[k]?)→C K w x cs→C K' w' x cs
theorem SlI.keep{α:Type}{sz:Nat}{C:Cl α}(hC:Loc C){K K':Nat→Prop}{w w':World}{v:Value}{l:List α}(h:∀ k,K k→K' k∧w'.heap[k]? = w.heap[k]?)(H:SlI sz C K w v l):SlI sz C K' w' v l:=by
 obtain⟨ad,cap,hv,hm⟩:=H;refine⟨ad,cap,hv,fun i x hi=>?_⟩;obtain⟨g,off,cs,h1,h2,h3,h4⟩:=hm i x hi;exact⟨g,off,cs,h1,(h g h2).1,h3.keep (h g h2).2,hC.keep _ _ _ _ _ _ h h4⟩
theorem SlI.slice{α:Type}{sz:Nat}{C:Cl α}{K:Nat→Prop}{w:World}{v:Value}{l:List α}(H:SlI sz C K w v l):∃ ad cap,v=.slice ad l.length cap:=by
 obtain⟨ad,cap,hv,_⟩:=H;exact⟨ad,cap,hv⟩
theorem SlI.nil{α:Type}{sz:Nat}{C:Cl α}(K:Nat→Prop)(w:World):SlI sz C K w (.slice none 0 0) []:=⟨none,0,rfl,fun i x h=>by simp at h⟩
abbrev Al:Type:=ByteArray×Nat×Int×ByteArray×ByteArray
abbrev Ex:Type:=ByteArray×List Al
def al8 (a:Al):List Value:=[.string a.1,B (l0 a.2.1),B (l1 a.2.1),B (l2 a.2.1),B (l3 a.2.1),Z a.2.2.1,.string a.2.2.2.1,.string a.2.2.2.2]
def CS:Cl ByteArray:=fun K w s cs=>cs=[.string s]
def CA:Cl Al:=fun K w a cs=>cs=al8 a∧a.2.1<W
def CE:Cl Ex:=fun K w x cs=>∃ av,cs=[.string x.1,av]∧SlI 8 CA K w av x.2
def CT (n:Nat):Cl (TT n):=fun K w t cs=>∃ lv,cs=tx (t.1,t.2.1,t.2.2.1,lv)∧LAf K w n lv t.2.2.2
theorem CS.loc:Loc CS:=⟨fun _ _ _ _ _ _ _ h=>h⟩
theorem CA.loc:Loc CA:=⟨fun _ _ _ _ _ _ _ h=>h⟩
theorem CE.loc:Loc CE:=⟨fun K K' w w' x cs h H=>by
 obtain⟨av,h1,h2⟩:=H;exact⟨av,h1,h2.keep CA.loc h⟩⟩
theorem CT.loc(n:Nat):Loc (CT n):=⟨fun K K' w w' x cs h H=>by
 obtain⟨lv,h1,h2⟩:=H;exact⟨lv,h1,(h2.keep fun k hk=>(h k hk).2).mono fun k hk=>(h k hk).1⟩⟩
theorem SlI.terms{n:Nat}{K:Nat→Prop}{w:World}{v:Value}{l:List (TT n)}(H:SlI 7 (CT n) K w v l):LAf K w (n+1) v l:=by
 obtain⟨ad,cap,hv,hm⟩:=H;refine⟨ad,cap,hv,fun i x hi=>?_⟩;obtain⟨g,off,cs,h1,h2,h3,lv,rfl,h4⟩:=hm i x hi;exact⟨g,off,lv,h1,h2,h3,h4⟩
abbrev StI (w:World) (v:Value) (l:List ByteArray):Prop:=SlI 1 CS (· < w.heap.size) w v l
abbrev AlI (w:World) (v:Value) (l:List Al):Prop:=SlI 8 CA (· < w.heap.size) w v l
abbrev ExI (w:World) (v:Value) (l:List Ex):Prop:=SlI 2 CE (· < w.heap.size) w v l
theorem SlI.below{α:Type}{sz:Nat}{C:Cl α}(hC:Loc C){w w':World}{v:Value}{l:List α}(H:SlI sz C (· < w.heap.size) w v l)(hb:Below w.heap.size w w'):SlI sz C (· < w'.heap.size) w' v l:=
 H.keep hC fun k hk=>⟨Nat.lt_of_lt_of_le hk hb.size,hb.block k hk⟩
theorem loadN{t n:Nat}{d:TypeDesc}(hu:prog.underlying t=some d)(hd:aggB d=true)(hi:(prog.info? t).map (·.size)=some n){w:World}{g o:Nat}{cs:List Value}(hl:cs.length=n)(h:zo w g o cs):(loadVar t ⟨g,o,none⟩).run prog w=.ok (.agg cs.toArray) w:=by
 have hl':(loadCells ⟨g,o,none⟩ n).run prog w=.ok cs.toArray w:=by
  have:=run_loadCells_list (P:=prog) w ⟨g,o,none⟩ cs (fun j c hc=>by
   rw[xz];exact h j c hc)
  rw[hl]at this;exact this
 have hA:(isAgg t).run prog w=.ok true w:=by
  unfold isAgg;simp only[Sem.run_bind,run_underlying hu,Result.andThen_ok];cases d<;>first|rfl|simp[aggB]at hd
 have hS:(sizeOf t).run prog w=.ok n w:=by
  cases hq:prog.info? t with
  | none=>rw[hq]at hi;cases hi
  | some i=>rw[hq]at hi;simp only[Option.map_some,Option.some.injEq]at hi;simp[sizeOf,typeInfo,hq,hi]
 unfold loadVar;simp only[Sem.run_bind,hA,Result.andThen_ok,if_true,hS,hl',Sem.run_pure]
theorem zb5{w:World}{g o:Nat}{a:Al}(h:zo w g o (al8 a)):(loadVar 133 ⟨g,o,none⟩).run prog w=.ok (.agg (al8 a).toArray) w:=loadN underlying133 rfl (n:=8) (by kernel_rfl) rfl h
theorem loadEx{w:World}{g o:Nat}{s av:Value}(h:zo w g o [s,av]):(loadVar 47 ⟨g,o,none⟩).run prog w=.ok (.agg #[s,av]) w:=loadN underlying47 rfl (n:=2) (by kernel_rfl) rfl h
theorem zbh{w:World}{g o:Nat}{s:Value}(h:zo w g o [s]):(loadVar 9 ⟨g,o,none⟩).run prog w=.ok s w:=xk h 0 rfl 9 underlying9 rfl
structure QJ {α:Type} (C:Cl α) (wE:World) (e sz:Nat) (v:Value) (X:List (List Value)) (l:List α) (K:Nat→Prop) (w:World):Prop where
 ro:RO wE wE.heap.size e sz v X.length X.flatten w
 kb:∀ k,K k→wE.heap.size≤k∧k<w.heap.size∧v.ownBlock≠some k
 len:X.length=l.length
 inn:∀(i:Nat) (x:List Value) (t:α),X[i]? = some x→l[i]? = some t→x.length=sz∧C K w t x
def QF (wE:World) (v:Value) (K:Nat→Prop) (k:Nat):Prop:=k<wE.heap.size∨v.ownBlock=some k∨K k
section
variable {α:Type} {C:Cl α} {wE w:World} {e sz:Nat} {v:Value} {X:List (List Value)} {l:List α} {K:Nat→Prop}
theorem QJ.below(h:QJ C wE e sz v X l K w):Below wE.heap.size wE w:=⟨h.ro.gr.os,h.ro.gr.tape,h.ro.gr.output,h.ro.gr.size,fun k hk=>h.ro.gr.block k hk (by omega)⟩
theorem QJ.rs(hC:Loc C)(wE:World)(e sz:Nat)(v:Value)(X:List (List Value))(l:List α)(K:Nat→Prop):yw (QJ C wE e sz v X l K) (QF wE v K):=by
 refine⟨fun w w' h gr=>⟨(RO.rs wE wE.heap.size e sz v X.length X.flatten).loc w w' h.ro ⟨gr.os,gr.tape,gr.output,gr.size,fun k hk hF=>gr.block k hk (hF.elim (fun h=>.inl h.1) fun h=>.inr (.inl h))⟩,fun k hk=>⟨(h.kb k hk).1,Nat.lt_of_lt_of_le (h.kb k hk).2.1 gr.size,(h.kb k hk).2.2⟩,h.len,fun i x t h1 h2=>⟨(h.inn i x t h1 h2).1,hC.keep _ _ _ _ _ _ (fun k hk=>⟨hk,gr.block k (h.kb k hk).2.1 (.inr (.inr hk))⟩) (h.inn i x t h1 h2).2⟩⟩,fun w k h hk=>?_⟩;rcases hk with hk | hk | hk
 ·exact Nat.lt_of_lt_of_le hk h.ro.gr.size
 ·exact(h.ro.own.lt k hk).2
 ·exact(h.kb k hk).2.1
theorem QJ.start(C:Cl α)(w:World)(e sz:Nat):QJ C w e sz (.slice none 0 0) [] [] noK w:=⟨RO.start _ _ _ _,fun _ h=>h.elim,rfl,fun i x t h=>by simp at h⟩
theorem flat_sz{sz:Nat}{x:List Value}{j:Nat}{c:Value}(hc:x[j]? = some c):∀{X:List (List Value)} {i:Nat},(∀ y∈X,y.length=sz)→X[i]? = some x→X.flatten[i*sz+j]? = some c
 | [],i,_,h=>by simp at h
 | y::X,0,hl,h=>by
  simp only[List.getElem?_cons_zero,Option.some.injEq]at h;subst h;have hj:j<y.length:=(List.getElem?_eq_some_iff.1 hc).1;rw[List.flatten_cons,Nat.zero_mul,Nat.zero_add,List.getElem?_append_left hj];exact hc
 | y::X,i+1,hl,h=>by
  have h1:=hl y List.mem_cons_self;rw[List.flatten_cons,List.getElem?_append_right (by rw[h1,Nat.succ_mul];omega),h1];have:=flat_sz hc (X:=X) (i:=i) (fun y hy=>hl y (List.mem_cons_of_mem _ hy)) (by simpa using h);rw[show(i+1)*sz+j-sz=i*sz+j by rw[Nat.succ_mul];omega];exact this
theorem QJ.done(hC:Loc C)(h:QJ C wE e sz v X l K w):SlI sz C (fun k=>K k∨v.ownBlock=some k) w v l:=by
 have ho:=h.ro.own;obtain⟨ad,cap,rfl⟩:=z4 ho;refine⟨ad,cap,by rw[h.len],fun i t hi=>?_⟩;have hil:i<X.length:=by rw[h.len];exact(List.getElem?_eq_some_iff.1 hi).1
 obtain⟨x,hx⟩:∃ x,X[i]? = some x:=⟨_,List.getElem?_eq_getElem hil⟩
 obtain⟨h1,h2⟩:=h.inn i x t hx hi;have hlen:∀ y∈X,y.length=sz:=fun y hy=>by
  obtain⟨j,hj⟩:=List.mem_iff_getElem?.1 hy;have hjl:j<l.length:=by rw[← h.len];exact(List.getElem?_eq_some_iff.1 hj).1
  exact(h.inn j y _ hj (List.getElem?_eq_getElem hjl)).1
 rcases ho.2 with⟨hv,hn⟩|⟨g,cap',cur,hv,hb,hg,hnc,hcm,hcs,hct⟩
 ·omega
 ·cases hv;refine⟨g,0,x,rfl,.inr rfl,fun j c hc=>?_,hC.keep _ _ _ _ _ _ (fun k hk=>⟨.inl hk,rfl⟩) h2⟩;have:=ho.cells (g:=g) rfl (i*sz+j) c (flat_sz hc hlen hx);rw[xz]at this;rw[Nat.zero_add]
  rwa [Nat.zero_add]at this
theorem QJ.kb2(h:QJ C wE e sz v X l K w):∀ k,(K k∨v.ownBlock=some k)→wE.heap.size≤k∧k<w.heap.size:=fun k hk=>by
 rcases hk with hk|hk
 ·exact⟨(h.kb k hk).1,(h.kb k hk).2.1⟩
 ·exact h.ro.own.lt k hk
end
structure MK {α:Type} (C:Cl α) (K1:Nat→Prop) (x:α) (cs:List Value) (w:World):Prop where
 kb:∀ k,K1 k→k<w.heap.size
 c:C K1 w x cs
theorem MK.rs{α:Type}{C:Cl α}(hC:Loc C)(K1:Nat→Prop)(x:α)(cs:List Value):yw (MK C K1 x cs) K1:=
 ⟨fun w w' h gr=>⟨fun k hk=>Nat.lt_of_lt_of_le (h.kb k hk) gr.size,hC.keep _ _ _ _ _ _ (fun k hk=>⟨hk,gr.block k (h.kb k hk) hk⟩) h.c⟩,fun w k h hk=>h.kb k hk⟩
theorem kh{α:Type}{C:Cl α}(hC:Loc C){t e sz by_:Nat}{z:Value}(ht:prog.underlying t=some (.slice e))(hinf:∃ i,prog.info? e=some i∧i.zero=some z∧i.size=sz∧i.bytes=by_)(hzs:z.cells.size=sz)(hsz:0<sz)(hby:by_≤1000){w:World}{i cap:Nat}{ad:Option Addr}{X:List (List Value)}{l:List α}{K K1:Nat→Prop}{x:α}{cs:List Value}{ev:Value}{ds:List Deferred}{β:Nat→Nat}{c:Cf}{a:Act}{w6:World}{Q:Exit→Act→World→Prop}(hbs:(Instr.buildSlice t 1 #[(0,ev)]).run prog w6=.ok (.slice (some ⟨w6.heap.size,0,none⟩) 1 1) (w6.alloc (.cells cs.toArray e)))(hcs:cs.length=sz)(hone:∀ u∈cs,u.oneCell'=true)(I6:SI (fun w'=>QJ C w e sz (.slice ad i cap) X l K w'∧MK C K1 x cs w') (fun k=>QF w (.slice ad i cap) K k∨K1 k) ds β c a w6)(hXi:X.length=i)(hi:i<100000000)(hK1:∀ k,K1 k→w.heap.size≤k∧(Value.slice ad i cap).ownBlock≠some k)(k:∀ ad8 cap8 a8 w8,SI (QJ C w e sz (.slice ad8 (i+1) cap8) (X++[cs]) (l++[x]) (fun k=>K k∨K1 k)) (QF w (.slice ad8 (i+1) cap8) (fun k=>K k∨K1 k)) ds β (xa (xa c (.slice (some ⟨w6.heap.size,0,none⟩) 1 1)) (.slice ad8 (i+1) cap8)) a8 w8→At prog Q (xa (xa c (.slice (some ⟨w6.heap.size,0,none⟩) 1 1)) (.slice ad8 (i+1) cap8)) a8 w8)(hc1:bsQ c=some (t,1,[(0,Sum.inl ev)]):=by kernel_rfl)(hc2:bltQ (xa c (.slice (some ⟨w6.heap.size,0,none⟩) 1 1))=some (.append,#[t,t],t,[Sum.inl (.slice ad i cap),Sum.inl (.slice (some ⟨w6.heap.size,0,none⟩) 1 1)]):=by kernel_rfl):At prog Q c a w6:=by
 have hRs:=(QJ.rs hC w e sz (.slice ad i cap) X l K).both (MK.rs hC K1 x cs);refine bslQ (ss:=[(0,Sum.inl ev)]) I6 hbs ?_ hc1;have I7:=I6.alloc hRs (.cells cs.toArray e) (.slice (some ⟨w6.heap.size,0,none⟩) 1 1);obtain⟨inf,hi1,hi2,hi3,hi4⟩:=hinf;have hown7:=I7.hJ.1.ro.own;rw[hXi]at hown7;obtain⟨v',w8,hr8,ho8,hg8⟩:=km ht hi1 hi2 hi3 hi4 hzs hsz hby hown7 I7.hJ.1.ro.gr.size ⟨w6.heap.size,0,none⟩ cs (by rw[hcs,Nat.one_mul]) (xu w6 cs.toArray e) hone (by omega);obtain⟨ad8,cap8,rfl⟩:=z4 ho8
 refine appQ (ss:=[Sum.inl (.slice ad i cap),Sum.inl (.slice (some ⟨w6.heap.size,0,none⟩) 1 1)]) I7 hr8 ?_ hc2;have hXl1:(X++[cs]).length=i+1:=by simp[hXi]
 have hXf:X.flatten++cs=(X++[cs]).flatten:=by simp
 rw[hXf]at ho8;have hk7:∀ k,(K k∨K1 k)→w.heap.size≤k∧k<w6.heap.size∧(Value.slice ad i cap).ownBlock≠some k:=fun k hk=>by
  rcases hk with hk|hk
  ·exact⟨(I6.hJ.1.kb k hk).1,(I6.hJ.1.kb k hk).2.1,(I6.hJ.1.kb k hk).2.2⟩
  ·exact⟨(hK1 k hk).1,I6.hJ.2.kb k hk,(hK1 k hk).2⟩
 have hsz7:(w6.alloc (.cells cs.toArray e)).heap.size=w6.heap.size+1:=by simp
 have hblk:∀ k,(K k∨K1 k)→w8.heap[k]? = w6.heap[k]? :=fun k hk=>by
  obtain⟨h1,h2,h3⟩:=hk7 k hk;rw[hg8.gr.block k (by omega) fun e=>h3 e.symm];exact(yh w6 _).block k h2
 have hro8:RO w w.heap.size e sz (.slice ad8 (i+1) cap8) (X++[cs]).length (X++[cs]).flatten w8:=by
  have h7:=I7.hJ.1.ro;rw[hXi]at h7;rw[hXl1];exact h7.grown ho8 hg8
 have hinn8:∀(j:Nat) (y:List Value) (t:α),(X++[cs])[j]? = some y→(l++[x])[j]? = some t→y.length=sz∧C (fun k=>K k∨K1 k) w8 t y:=by
  intro j y t' h1 h2;have hl:=I6.hJ.1.len;rcases Nat.lt_or_ge j X.length with hj|hj
  ·rw[List.getElem?_append_left hj]at h1;rw[List.getElem?_append_left (by omega)]at h2;obtain⟨q1,q2⟩:=I6.hJ.1.inn j y t' h1 h2;exact⟨q1,hC.keep _ _ _ _ _ _ (fun k hk=>⟨.inl hk,hblk k (.inl hk)⟩) q2⟩
  ·rw[List.getElem?_append_right hj]at h1;rw[List.getElem?_append_right (by omega)]at h2;have hj0:j-X.length=0:=by
    have:=(List.getElem?_eq_some_iff.1 h1).1;simpa using this
   rw[hj0]at h1;rw[show j-l.length=0 by omega]at h2;simp only[List.getElem?_cons_zero,Option.some.injEq]at h1 h2;subst h1 h2;exact⟨hcs,hC.keep _ _ _ _ _ _ (fun k hk=>⟨.inr hk,hblk k (.inr hk)⟩) I6.hJ.2.c⟩
 exact k ad8 cap8 _ w8 (I7.moved ⟨hg8.gr.os,hg8.gr.tape,hg8.gr.output,hg8.gr.size,fun k hk hn=>hg8.gr.block k hk fun e=>hn (.inl (.inr (.inl e.symm)))⟩ ⟨hro8,fun k hk=>by
   obtain⟨h1,h2,h3⟩:=hk7 k hk;have:=hg8.gr.size;refine⟨h1,by omega,fun e=>?_⟩;rcases hg8.nb k e with h4 | h4
   ·exact h3 h4
   ·omega,by simp[I6.hJ.1.len],hinn8⟩ (fun k hk h=>by
   rcases h with h|h|h|h
   ·exact .inl (.inl h)
   ·rcases hg8.nb k h with h4|h4
    ·exact .inl (.inr (.inl h4))
    ·omega
   ·exact .inl (.inr (.inr h))
   ·exact .inr h) (.slice ad8 (i+1) cap8))
theorem zas{α:Type}{C:Cl α}{wE:World}{e sz:Nat}{v:Value}{X:List (List Value)}{l:List α}{K K1:Nat→Prop}{x:α}{cs:List Value}{ds:List Deferred}{β:Nat→Nat}{c:Cf}{a:Act}{w w':World}(hC:Loc C)(I:SI (QJ C wE e sz v X l K) (QF wE v K) ds β c a w)(hb:Below w.heap.size w w')(hk:∀ k,K1 k→w.heap.size≤k∧k<w'.heap.size)(hc:C K1 w' x cs)(r:Value) :
  SI (fun w'=>QJ C wE e sz v X l K w'∧MK C K1 x cs w') (fun k=>QF wE v K k∨K1 k) ds β (xa c r) (a.put (yu c) r) w':=
 I.moved (zi.of_below hb) ⟨(QJ.rs hC wE e sz v X l K).loc w w' I.hJ (zi.of_below hb),fun k h=>(hk k h).2,hc⟩ (fun k hlt h=>by
  rcases h with h|h
  ·exact h
  ·have:=(hk k h).1;omega) r
theorem mem_new{α:Type}{C:Cl α}{wE:World}{e sz:Nat}{v:Value}{X:List (List Value)}{l:List α}{K K1:Nat→Prop}{w w':World}(h:QJ C wE e sz v X l K w)(hk:∀ k,K1 k→w.heap.size≤k∧k<w'.heap.size):∀ k,K1 k→wE.heap.size≤k∧v.ownBlock≠some k:=fun k h1=>by
 have h2:=(hk k h1).1;refine⟨Nat.le_trans h.ro.gr.size h2,fun e=>?_⟩;have:=(h.ro.own.lt k e).2;omega
theorem add_raw(s c:Nat→Nat→Nat→Nat)(hc:∀ x y k:Nat,c x y k≤1)(hr:∀ x y k:Nat,x<M→y<M→k≤1→∀ w,(callFunc 119 #[.int .u64 x,.int .u64 y,.int .u64 k]).run prog w=.ok (.value (.tuple #[B (s x y k),B (c x y k)])) w)(hr0:∀ x y:Nat,x<M→y<M→∀ w,(callFunc 119 #[.int .u64 x,.int .u64 y,.int .u64 0]).run prog w=.ok (.value (.tuple #[B (s x y 0),B (c x y 0)])) w)(a0 a1 a2 a3 b0 b1 b2 b3:Nat)(g0:a0<M)(j0:b0<M)(g1:a1<M)(j1:b1<M)(g2:a2<M)(j2:b2<M)(g3:a3<M)(j3:b3<M):RT 139 #[U4 a0 a1 a2 a3,U4 b0 b1 b2 b3] (.tuple #[U4 (s a0 b0 0) (s a1 b1 (c a0 b0 0)) (s a2 b2 (c a1 b1 (c a0 b0 0))) (s a3 b3 (c a2 b2 (c a1 b1 (c a0 b0 0)))),.bool (((c a3 b3 (c a2 b2 (c a1 b1 (c a0 b0 0)))):Int) != 0)]):=by
 intro w
 go_enter func139,ntmps139
 go_wp2
 refine wp_loop_rounds 5 ?_
 iterate 4(rw[rounds_succ];go_wp2;go_region;go_wp2)
 rw[rounds_succ];go_wp2;exact bodyPost_ret (v:=.tuple #[U4 (s a0 b0 0) (s a1 b1 (c a0 b0 0)) (s a2 b2 (c a1 b1 (c a0 b0 0))) (s a3 b3 (c a2 b2 (c a1 b1 (c a0 b0 0)))),.bool (((c a3 b3 (c a2 b2 (c a1 b1 (c a0 b0 0)))):Int) != 0)]) (by simp[results,results139,go_sem]) rfl ⟨rfl,(by repeat(first|exact Below.refl _ _|apply Below.drew|refine Below.alloc ?_ (by simp;try omega) _))⟩
theorem radd_raw(s c:Nat→Nat→Nat→Nat)(hc:∀ x y k:Nat,c x y k≤1)(hr:∀ x y k:Nat,x<M→y<M→k≤1→∀ w,(callFunc 119 #[.int .u64 x,.int .u64 y,.int .u64 k]).run prog w=.ok (.value (.tuple #[B (s x y k),B (c x y k)])) w)(hr0:∀ x y:Nat,x<M→y<M→∀ w,(callFunc 119 #[.int .u64 x,.int .u64 y,.int .u64 0]).run prog w=.ok (.value (.tuple #[B (s x y 0),B (c x y 0)])) w)(a0 a1 a2 a3 b0 b1 b2 b3:Nat)(g0:a0<M)(j0:b0<M)(g1:a1<M)(j1:b1<M)(g2:a2<M)(j2:b2<M)(g3:a3<M)(j3:b3<M):RT 80 #[U4 a0 a1 a2 a3,U4 b0 b1 b2 b3] (.tuple #[U4 (s a0 b0 0) (s a1 b1 (c a0 b0 0)) (s a2 b2 (c a1 b1 (c a0 b0 0))) (s a3 b3 (c a2 b2 (c a1 b1 (c a0 b0 0)))),.bool (decide (0<(c a3 b3 (c a2 b2 (c a1 b1 (c a0 b0 0))))))]):=by
 intro w
 go_enter func80,ntmps80
 go_wp2
 refine wp_loop_rounds 5 ?_
 iterate 4(rw[rounds_succ];go_wp2;go_region;go_wp2)
 rw[rounds_succ];go_wp2;exact bodyPost_ret (v:=.tuple #[U4 (s a0 b0 0) (s a1 b1 (c a0 b0 0)) (s a2 b2 (c a1 b1 (c a0 b0 0))) (s a3 b3 (c a2 b2 (c a1 b1 (c a0 b0 0)))),.bool (decide (0<(c a3 b3 (c a2 b2 (c a1 b1 (c a0 b0 0))))))]) (by simp[results,results80,go_sem]) rfl ⟨rfl,(by repeat(first|exact Below.refl _ _|apply Below.drew|refine Below.alloc ?_ (by simp;try omega) _))⟩
theorem run_add(x y c:Nat)(hx:x<M)(hy:y<M)(hc:c≤1)(w:World) :
  (callFunc 119 #[.int .u64 x,.int .u64 y,.int .u64 c]).run prog w=.ok (.value (.tuple #[B (sm x y c),B (cy x y c)])) w:=by
 rw[run_callFunc_extern func119 (by kernel_rfl) (by kernel_rfl) (by kernel_rfl) (e:=add64Entry) (by kernel_rfl),run_add64 x y c (by omega) (by omega) (by omega) (by omega)];simp only[Result.andThen,B,sm,← cy_eq x y c hx hy hc,M_eq]
 congr 5
theorem run_add0(x y:Nat)(hx:x<M)(hy:y<M)(w:World) :
  (callFunc 119 #[.int .u64 x,.int .u64 y,.int .u64 0]).run prog w=.ok (.value (.tuple #[B (sm x y 0),B (cy x y 0)])) w:=run_add x y 0 hx hy (by omega) w
theorem add_any(n m:Nat)(hn:n<W)(hm:m<W):RT 139 #[U n,U m] (.tuple #[U (addW n m),.bool (ovW n m)]):=by
 intro w;refine(add_raw sm cy cy_le run_add run_add0 (l0 n) (l1 n) (l2 n) (l3 n) (l0 m) (l1 m) (l2 m) (l3 m) (kr n) (kr m) (l1_lt n) (l1_lt m) (l2_lt n) (l2_lt m) (l3_lt n) (l3_lt m) w).mono ?_;rintro e w' ⟨rfl,hb⟩;obtain⟨⟨e0,e1,e2,e3⟩,ec⟩:=add_parts n m hn hm;exact⟨by rw[bne_pos,decide_eq_decide.2 ec];unfold U addW ovW;rw[e0,e1,e2,e3],hb⟩
theorem radd_any(n m:Nat)(hn:n<W)(hm:m<W):RT 80 #[U n,U m] (.tuple #[U (addW n m),.bool (ovW n m)]):=by
 intro w;refine(radd_raw sm cy cy_le run_add run_add0 (l0 n) (l1 n) (l2 n) (l3 n) (l0 m) (l1 m) (l2 m) (l3 m) (kr n) (kr m) (l1_lt n) (l1_lt m) (l2_lt n) (l2_lt m) (l3_lt n) (l3_lt m) w).mono ?_;rintro e w' ⟨rfl,hb⟩;obtain⟨⟨e0,e1,e2,e3⟩,ec⟩:=add_parts n m hn hm;exact⟨by rw[decide_eq_decide.2 ec];unfold U addW ovW;rw[e0,e1,e2,e3],hb⟩
abbrev eB:ByteArray:=⟨#[]⟩
def rdB (s:ByteArray):Nat:=rdN s s.size
theorem zbi{s:ByteArray}(h:s.size≤32):rdB s<W:=rd_ltW s s.size h
abbrev nTm (u:Nat):Value:=.agg (tx (0,u,eB,.slice none 0 0)).toArray
abbrev tTm (s:ByteArray):Value:=.agg (tx (1,0,s,.slice none 0 0)).toArray
abbrev lTm (v:Value):Value:=.agg (tx (2,0,eB,v)).toArray
theorem bd_nTm(u:Nat)(w:World):(Instr.build 59 (([0,1]:List Nat).zip [Z 0,U u]).toArray).run prog w=.ok (nTm u) w:=by kernel_rfl
theorem bd_tTm(s:ByteArray)(w:World):(Instr.build 59 (([0,2]:List Nat).zip [Z 1,.string s]).toArray).run prog w=.ok (tTm s) w:=by kernel_rfl
theorem zcx(u:Nat):RT 140 #[U u] (nTm u):=by
 refine fun w=>inZ func140 fun a I=>?_;refine goZ [dO 59 [0,1] (bd_nTm u)] I fun β a w1 I hb=>?_;exact xj (v:=nTm u) I
theorem qf(n:Nat)(hn:n<M):RT 125 #[B n] (nTm n):=by
 refine fun w=>inZ func125 fun a I=>?_;refine goZ [kC func121 (of_any n hn),kC func140 (zcx n)] I fun β a w1 I hb=>?_;exact xj (v:=nTm n) I
theorem textTerm_any(s:ByteArray):RT 126 #[.string s] (tTm s):=by
 refine fun w=>inZ func126 fun a I=>?_;refine goZ [dO 59 [0,2] (bd_tTm s)] I fun β a w1 I hb=>?_;exact xj (v:=tTm s) I
theorem vg(s:ByteArray)(hs:s.size≤32):RT 124 #[.string s] (nTm (rdB s)):=by
 refine fun w=>inZ func124 fun a I=>?_;refine goZ [kC func75 (read_any s hs),kC func140 (zcx (rdB s))] I fun β a w1 I hb=>?_;exact xj (v:=nTm (rdB s)) I
theorem kj(ad:Option Addr)(n cap:Nat):RT 129 #[.slice ad n cap] (lTm (.slice ad n cap)):=by
 refine fun w=>inZ func129 fun a I=>?_;refine goZ [dO 59 [0,3] (bd_lst2 ad n cap)] I fun β a w1 I hb=>?_;exact xj (v:=lTm (.slice ad n cap)) I
abbrev flg (b:Bool):Nat:=if b then 1 else 0
theorem flagTerm_any(b:Bool):RT 132 #[.bool b] (nTm (flg b)):=by
 refine fun w=>inZ func132 fun a I=>?_;cases b with
 | true=>
  refine goZ [kC func125 (qf 1 (by decide))] I fun β a w1 I hb=>?_;exact xj (v:=nTm 1) I
 | false=>
  refine goZ [kC func125 (qf 0 (by decide))] I fun β a w1 I hb=>?_;exact xj (v:=nTm 0) I
def lastL (u n:Nat):List UInt8:=(wb u).drop (32-n)
theorem bytes_str(n:Nat)(w:World):Calls prog 120 #[U n] w fun e w'=>e=.returned (str (wb n))∧Below w.heap.size w w':=zdh n w
theorem vk(k:Int)(u:Nat)(s:ByteArray)(ad:Option Addr)(m cap n:Nat)(hn:n≤32):RT 107 #[.agg (tx (k,u,s,.slice ad m cap)).toArray,Z n] (str (lastL u n)):=by
 refine fun w=>inZ func107 fun a I=>?_;have hz:=zx u;refine goZ [kC func120 (bytes_str u),lO underlying9 (b:=⟨(wb u).toArray⟩) (n:=32) (by rw[zn,hz];rfl),ksZ 32 n (32-n:Nat),sO 9 (p:=str (wb u)) (l:=Z (32-n:Nat)) (v:=str (lastL u n)) (v8 (by omega))] I fun β a w1 I hb=>?_;exact xj (v:=str (lastL u n)) I
theorem zaz(k:Int)(u:Nat)(s:ByteArray)(ad:Option Addr)(m cap:Nat):RT 109 #[.agg (tx (k,u,s,.slice ad m cap)).toArray] (B (l0 u)):=by
 refine fun w=>inZ func109 fun a I=>?_;refine goZ [] I fun β a w1 I hb=>?_;exact xj (v:=B (l0 u)) I
def SM (w:World) (g:Nat):Prop:=w.heap[g]? = some (.map #[{ key:=Z 0,val:=Z 0,born:=0 },{ key:=Z 1,val:=Z 32,born:=1 }] 2)
def v9 (k:Int):Int:=if k=1 then 32 else 0
def sideK (k:Int):Bool:=decide (k=0∨k=1)
abbrev smE:List MapEntry:=[{ key:=Z 0,val:=Z 0,born:=0 },{ key:=Z 1,val:=Z 32,born:=1 }]
theorem ck_int(b:Bool)(k:Int)(w:World):(Instr.checkKey b 10000 3 (Z k)).run prog w=.ok () w:=by
 rw[show(10000:Nat)=9999+1 from rfl];unfold Instr.checkKey;simp only[Sem.run_bind,run_underlying underlying3,Result.andThen_ok];rfl
theorem fk_int{k:Int}{es:List MapEntry}{r:Option (Nat×Value)}(h:Instr.findNow (.int .i64) (Z k) es 0=some r)(w:World):(Instr.findKey 3 (Z k) es).run prog w=.ok r w:=by
 unfold Instr.findKey;simp only[Sem.run_bind,run_underlying underlying3,Result.andThen_ok,h];rfl
theorem fn_sm(k:Int):Instr.findNow (.int .i64) (Z k) smE 0=some (if k=0 then some (0,Z 0)else if k=1 then some (1,Z 32)else none):=by
 by_cases h0:k=0
 ·subst h0;rfl
 ·by_cases h1:k=1
  ·subst h1;rfl
  ·have e0:(k == 0)=false:=by simpa using h0
   have e1:(k == 1)=false:=by simpa using h1
   simp only[Instr.findNow,Instr.sameNow,if_true,e0,e1,if_neg h0,if_neg h1]
theorem sm_look{w:World}{g:Nat}(h:SM w g)(k:Int):(Instr.lookup 164 (.map (some g)) (Z k) true).run prog w=.ok (.tuple #[Z (v9 k),.bool (sideK k)]) w:=by
 have hz:(zeroValue 3).run prog w=.ok (Z 0) w:=by simp[go_sem]
 have hg:(getObj g).run prog w=.ok (.map #[{ key:=Z 0,val:=Z 0,born:=0 },{ key:=Z 1,val:=Z 32,born:=1 }] 2) w:=by unfold SM at h;simp[getObj,Sem.run,h]
 unfold Instr.lookup;simp only[Sem.run_bind,run_underlying underlying164,Result.andThen_ok,hg,Sem.run_pure,ck_int,fk_int (fn_sm k)];by_cases h0:k=0
 ·subst h0;rfl
 ·by_cases h1:k=1
  ·subst h1;rfl
  ·simp only[if_neg h0,if_neg h1,Sem.run_bind,hz,Result.andThen_ok,Sem.run_pure];simp[v9,sideK,h0,h1]
theorem sm_look1{w:World}{g:Nat}(h:SM w g)(k:Int):(Instr.lookup 164 (.map (some g)) (Z k) false).run prog w=.ok (Z (v9 k)) w:=by
 have hz:(zeroValue 3).run prog w=.ok (Z 0) w:=by simp[go_sem]
 have hg:(getObj g).run prog w=.ok (.map #[{ key:=Z 0,val:=Z 0,born:=0 },{ key:=Z 1,val:=Z 32,born:=1 }] 2) w:=by unfold SM at h;simp[getObj,Sem.run,h]
 unfold Instr.lookup;simp only[Sem.run_bind,run_underlying underlying164,Result.andThen_ok,hg,Sem.run_pure,ck_int,fk_int (fn_sm k)];by_cases h0:k=0
 ·subst h0;rfl
 ·by_cases h1:k=1
  ·subst h1;rfl
  ·simp only[if_neg h0,if_neg h1,Sem.run_bind,hz,Result.andThen_ok,Sem.run_pure];simp[v9,h1]
section
variable {P:Program} {J:World→Prop} {F:Nat→Prop} {ds:List Deferred} {β:Nat→Nat} {c:Cf} {a:Act} {w:World} {Q:Exit→Act→World→Prop}
def lkX (c:Cf):Option (TypeId×SV×SV×Bool):=match kq c with
 | some o=>match o.op with
  | .lookup t x y ok=>(evQ c.tm x).bind fun s=>(evQ c.tm y).map fun r=>(t,s,r,ok)
  | _=>none
 | none=>none
theorem lokX{t:TypeId}{m k v:Value}{ok:Bool}(I:SI J F ds β c a w)(hr:(Instr.lookup t m k ok).run P w=.ok v w)(kk:At P Q (xa c v) (a.put (yu c) v) w)(hc:lkX c=some (t,Sum.inl m,Sum.inl k,ok):=by kernel_rfl):At P Q c a w:=by
 unfold lkX at hc;split at hc
 ·next o ho=>
  split at hc
  ·next t' x y ok' hop=>
   simp only[Option.bind_eq_some_iff,Option.map_eq_some_iff,Prod.mk.injEq]at hc;obtain⟨s,hs,r,hr2,rfl,rfl,rfl,rfl⟩:=hc;refine vstep ho I (v:=v) (w':=w) ?_ kk;unfold execOp;simp only[hop,xn I.fr hs,xn I.fr hr2,up];rw[Sem.run_bind,hr,Result.andThen_ok,Sem.run_pure]
  ·cases hc
 ·cases hc
def mkX (c:Cf):Option TypeId:=match kq c with
 | some o=>match o.op with
  | .makeMap t none=>some t
  | _=>none
 | none=>none
theorem makX{t:TypeId}(I:SI J F ds β c a w)(kk:At P Q (xa c (.map (some w.heap.size))) (a.put (yu c) (.map (some w.heap.size))) (w.alloc (.map #[] 0)))(hc:mkX c=some t:=by kernel_rfl):At P Q c a w:=by
 unfold mkX at hc;split at hc
 ·next o ho=>
  split at hc
  ·next t' hop=>
   refine vstep ho I (w':=w.alloc (.map #[] 0)) ?_ kk;have hm:(Instr.makeMap t' none).run P w=.ok (.map (some w.heap.size)) (w.alloc (.map #[] 0)):=rfl;unfold execOp;simp only[hop,Option.map_none];rw[Sem.run_bind,hm,Result.andThen_ok,Sem.run_pure]
  ·cases hc
 ·cases hc
def inX (c:Cf):Option (TypeId×SV×SV×SV):=match kq c with
 | some o=>match o.op with
  | .insert t x y z=>(evQ c.tm x).bind fun s=>(evQ c.tm y).bind fun r=>(evQ c.tm z).map fun u=>(t,s,r,u)
  | _=>none
 | none=>none
theorem insX{t:TypeId}{m k v:Value}{w':World}(I:SI J F ds β c a w)(hr:(Instr.mapUpdate t m k v).run P w=.ok () w')(kk:At P Q (qz c (yu c) none) (a.put (yu c) undef) w')(hc:inX c=some (t,Sum.inl m,Sum.inl k,Sum.inl v):=by kernel_rfl):At P Q c a w:=by
 unfold inX at hc;split at hc
 ·next o ho=>
  split at hc
  ·next t' x y z hop=>
   simp only[Option.bind_eq_some_iff,Option.map_eq_some_iff,Prod.mk.injEq]at hc;obtain⟨s,hs,r,hr2,u,hu,rfl,rfl,rfl,rfl⟩:=hc;obtain⟨hd,⟨rest,hrr⟩,hw⟩:=vq ho;refine zbb hd hrr (v7 I hw) ?_;have he:(execOp a.eval o).run P w=.ok .skip w':=by
    unfold execOp;simp only[hop,xn I.fr hs,xn I.fr hr2,xn I.fr hu,up];rw[Sem.run_bind,hr,Result.andThen_ok,Sem.run_pure]
   unfold Oper.wp;rw[he];replace kk:=kk.out;unfold AtD at kk;simp only[qz,hd,yu,hrr,List.tail_cons,List.head?_cons,Option.bind_some]at kk;exact kk
  ·cases hc
 ·cases hc
end
theorem up_int{w:World}{g:Nat}{es:Array MapEntry}{n:Nat}(h:w.heap[g]? = some (.map es n))(k:Int)(v:Value)(hf:Instr.findNow (.int .i64) (Z k) es.toList 0=some none):(Instr.mapUpdate 164 (.map (some g)) (Z k) v).run prog w=.ok () { w with heap:=w.heap.setIfInBounds g (.map (es.push { key:=Z k,val:=v,born:=n }) (n+1)) }:=by
 have hg:(getObj g).run prog w=.ok (.map es n) w:=by simp[getObj,Sem.run,h]
 unfold Instr.mapUpdate;simp only[Sem.run_bind,run_underlying underlying164,Result.andThen_ok,hg,ck_int,fk_int hf];simp[setObj,Sem.run,h]
structure MJ (wE:World) (g:Nat) (es:Array MapEntry) (n:Nat) (w:World):Prop where
 bw:Below wE.heap.size wE w
 ge:wE.heap.size≤g
 at_:w.heap[g]? = some (.map es n)
theorem MJ.rs(wE:World)(g:Nat)(es:Array MapEntry)(n:Nat):yw (MJ wE g es n) (fun k=>k<wE.heap.size∨k=g):=by
 refine⟨fun w w' h gr=>⟨⟨gr.os.trans h.bw.os,gr.tape.trans h.bw.tape,gr.output.trans h.bw.output,Nat.le_trans h.bw.size gr.size,fun k hk=>(gr.block k (Nat.lt_of_lt_of_le hk h.bw.size) (.inl hk)).trans (h.bw.block k hk)⟩,h.ge,?_⟩,fun w k h hk=>?_⟩
 ·rw[gr.block g (Array.getElem?_eq_some_iff.1 h.at_).1 (.inr rfl)];exact h.at_
 ·rcases hk with hk|rfl
  ·exact Nat.lt_of_lt_of_le hk h.bw.size
  ·exact(Array.getElem?_eq_some_iff.1 h.at_).1
theorem MJ.put{wE:World}{g:Nat}{es:Array MapEntry}{n:Nat}{w:World}(h:MJ wE g es n w)(o:Array MapEntry)(m:Nat):MJ wE g o m { w with heap:=w.heap.setIfInBounds g (.map o m) }∧zi (fun k=>¬ (k<wE.heap.size∨k=g)) w { w with heap:=w.heap.setIfInBounds g (.map o m) }:=by
 have hlt:g<w.heap.size:=(Array.getElem?_eq_some_iff.1 h.at_).1;have hne:∀ k,k≠g→(w.heap.setIfInBounds g (.map o m))[k]? = w.heap[k]? :=fun k hk=>by
  rw[Array.getElem?_setIfInBounds,if_neg (fun e=>hk e.symm)]
 refine⟨⟨⟨h.bw.os,h.bw.tape,h.bw.output,by simpa using h.bw.size,fun k hk=>?_⟩,h.ge,?_⟩,rfl,rfl,rfl,by simp,fun k hk hF=>hne k fun e=>hF (.inr e)⟩
 ·rw[hne k (by have:=h.ge;omega)];exact h.bw.block k hk
 ·show(w.heap.setIfInBounds g (.map o m))[g]? = _;rw[Array.getElem?_setIfInBounds,if_pos rfl,if_pos hlt]
theorem SI.movU{J J':World→Prop}{F F':Nat→Prop}{ds:List Deferred}{β:Nat→Nat}{c:Cf}{a:Act}{w w':World}(I:SI J F ds β c a w)(g:zi (fun k=>¬ F k) w w')(hJ:J' w')(hF:∀ k,k<w.heap.size→F' k→F k):SI J' F' ds β (qz c (yu c) none) (a.put (yu c) undef) w':=I.move g hJ hF (yu c) none
theorem sides_any(w:World):Calls prog 110 #[] w fun e w'=>Below w.heap.size w w'∧∃ g,e=.returned (.map (some g))∧w.heap.size≤g∧g<w'.heap.size∧SM w' g:=by
 refine inZ func110 fun a I=>?_;refine goZ [] I fun β a w1 I hb=>?_;refine makX (t:=164) I ?_;have hsz:=I.hJ.size;have I1:SI (MJ w w1.heap.size #[] 0) (fun k=>k<w.heap.size∨k=w1.heap.size) [] β _ _ (w1.alloc (.map #[] 0)):=I.moved (zi.of_below (yh w1 _)) ⟨I.hJ.trans ((yh w1 _).mono hsz),hsz,Array.getElem?_push_size⟩ (fun k hk h=>by
  rcases h with h|h
  ·exact h
  ·omega) (.map (some w1.heap.size))
 obtain⟨g,hg⟩:∃ g,w1.heap.size=g:=⟨_,rfl⟩
 rw[hg]at I1 ⊢;have h1:=I1.hJ.at_;generalize hw2:w1.alloc (.map #[] 0)=w2 at I1 h1 ⊢;refine insX (t:=164) (m:=.map (some g)) (k:=Z 0) (v:=Z 0) I1 (up_int h1 0 (Z 0) (by kernel_rfl)) ?_;have I2:=I1.movU (I1.hJ.put #[{ key:=Z 0,val:=Z 0,born:=0 }] 1).2 (I1.hJ.put #[{ key:=Z 0,val:=Z 0,born:=0 }] 1).1 (fun _ _ h=>h);have h2:=I2.hJ.at_;refine insX (t:=164) (m:=.map (some g)) (k:=Z 1) (v:=Z 32) I2 (up_int h2 1 (Z 32) (by kernel_rfl)) ?_
 have I3:=I2.movU (I2.hJ.put #[{ key:=Z 0,val:=Z 0,born:=0 },{ key:=Z 1,val:=Z 32,born:=1 }] 2).2 (I2.hJ.put #[{ key:=Z 0,val:=Z 0,born:=0 },{ key:=Z 1,val:=Z 32,born:=1 }] 2).1 (fun _ _ h=>h);refine goQ [] (MJ.rs _ _ _ _) I3 fun β4 a4 w4 I hb4=>?_;exact zh (v:=.map (some g)) I ⟨I.hJ.bw,g,rfl,I.hJ.ge,(Array.getElem?_eq_some_iff.1 I.hJ.at_).1,I.hJ.at_⟩
theorem thenR{P:Program}{Q:Exit→Act→World→Prop}{N:Act→World→Prop}{ks:List Ki}{a:Act}{w:World}(h:Q .ret a w):Exit.then N (QK P Q ks) .ret a w:=retQ_ok h
def sumA (l:List Al):Nat:=(l.map fun a=>a.2.1).sum
def totS (l:List Ex) (s:ByteArray):Nat:=(l.map fun x=>if x.1=s then sumA x.2 else 0).sum
theorem sum_take{α:Type}(f:α→Nat)(l:List α){i:Nat}{x:α}(h:l[i]? = some x):((l.take (i+1)).map f).sum=((l.take i).map f).sum+f x:=by
 rw[List.take_add_one,h,List.map_append,List.sum_append];simp
theorem sum_take_le{α:Type}(f:α→Nat)(l:List α)(i:Nat):((l.take i).map f).sum≤(l.map f).sum:=by
 conv=>rhs;rw[← List.take_append_drop i l,List.map_append,List.sum_append]
 omega
theorem totS_take{l:List Ex}{s:ByteArray}{i:Nat}{x:Ex}(h:l[i]? = some x):totS (l.take (i+1)) s=totS (l.take i) s+if x.1=s then sumA x.2 else 0:=sum_take _ l h
theorem totS_le{l:List Ex}{s:ByteArray}(i:Nat):totS (l.take i) s≤totS l s:=sum_take_le _ l i
theorem sumA_take{l:List Al}{i:Nat}{x:Al}(h:l[i]? = some x):sumA (l.take (i+1))=sumA (l.take i)+x.2.1:=sum_take _ l h
theorem sumA_le{l:List Al}(i:Nat):sumA (l.take i)≤sumA l:=sum_take_le _ l i
def totV (l:List Ex) (s:ByteArray):Value:=if totS l s<W then .tuple #[U (totS l s),.bool true]else .tuple #[U 0,.bool false]
theorem bd_Uz(w:World):(Instr.build 57 (([]:List Nat).zip []).toArray).run prog w=.ok (U 0) w:=by kernel_rfl
abbrev toK:List Nat:=[0,1,4,5,6,13,14,15]
abbrev toV (ev:Value) (s:ByteArray) (n i:Nat):Vs:=frm 43 [(0,Sum.inl ev),(1,Sum.inl (.string s)),(4,Sum.inr (0,0)),(5,Sum.inl (.bool false)),(6,Sum.inr (1,0)),(13,Sum.inl ev),(14,Sum.inl (Z n)),(15,Sum.inl (Z i))]
abbrev tiK:List Nat:=[0,1,4,5,6,13,14,15,24,25,26]
abbrev tiV (ev:Value) (s:ByteArray) (n i:Nat) (av:Value) (m j:Nat):Vs:=frm 43 [(0,Sum.inl ev),(1,Sum.inl (.string s)),(4,Sum.inr (0,0)),(5,Sum.inl (.bool false)),(6,Sum.inr (1,0)),(13,Sum.inl ev),(14,Sum.inl (Z n)),(15,Sum.inl (Z i)),(24,Sum.inl av),(25,Sum.inl (Z m)),(26,Sum.inl (Z j))]
abbrev rU (n:Nat):Array Value:=#[B (l0 n),B (l1 n),B (l2 n),B (l3 n)]
theorem total_any{w:World}{ev:Value}{l:List Ex}(h:ExI w ev l)(s:ByteArray)(hl:l.length<1000000000)(hla:∀ x∈l,x.2.length<1000000000) :
  Calls prog 118 #[ev,.string s] w fun e w'=>e=.returned (totV l s)∧Below w.heap.size w w':=by
 obtain⟨ad,cap,rfl,hm⟩:=h;refine inZ func118 fun a I=>?_;refine goZ [lS underlying26 (ad:=ad) (n:=l.length) (cap:=cap) rfl] I fun β a w1 I hb=>?_
 let St:Nat→Act→World→Prop:=fun k a w'=>∃(i:Nat) (β:Nat→Nat) (u:Nat→Value),k=l.length-i∧i≤l.length∧totS (l.take i) s<W ∧
  SI (Below w.heap.size w) (· < w.heap.size) [] β (cfC (zc Tryz.f118) (zl (zg 43 toK) u 0 (toV (.slice ad l.length cap) s l.length i)) [(0,rU 0),(1,rU (totS (l.take i) s))] 2) a w'
 refine lpM (zc Tryz.f118) St l.length ?_ ?_
 ·obtain⟨u,Iu⟩:=I.scr (zc Tryz.f118) (zg 43 toK) (toV (.slice ad l.length cap) s l.length 0) [(0,rU 0),(1,rU 0)] 2;exact⟨0,β,u,by omega,Nat.zero_le _,by rw[List.take_zero];exact W_pos,Iu⟩
 rintro k a3 w3 ⟨i,β3,u,rfl,hi,hW,I⟩;obtain⟨T,hT⟩:∃ T,totS (l.take i) s=T:=⟨_,rfl⟩
 rw[hT]at I hW;refine zv (tm:=zl (zg 43 toK) u 0 (toV (.slice ad l.length cap) s l.length i)) (rows:=[(0,rU 0),(1,rU T)]) (nx:=2) ?_;have hadd:IntKind.i64.wrap ((i:Int)+1)=((i+1:Nat):Int):=by rw[wz (by omega) (by omega)];omega
 rcases Nat.lt_or_ge i l.length with hil|hil
 ·obtain⟨⟨sa,al⟩,h1⟩:∃ t,l[i]? = some t:=⟨_,List.getElem?_eq_getElem hil⟩
  obtain⟨ga,offa,cs,rfl,hlt,hca,av,rfl,ada,capa,rfl,hma⟩:=hm i _ h1;have hal:al.length<1000000000:=hla _ (List.mem_of_getElem? h1);simp only[]at hca hma;have hstep:=totS_take (s:=s) h1;rw[hT]at hstep;simp only[]at hstep;have hld:∀ w',Below w.heap.size w w'→(loadVar 47 ⟨ga,offa+i*2,none⟩).run prog w'=.ok (.agg #[.string sa,.slice ada al.length capa]) w':=fun w' hb=>loadEx (hca.keep (hb.block ga hca.lt))
  by_cases has:¬ sa=s
  ·rw[if_neg has,Nat.add_zero]at hstep;refine goT (T:=Below w.heap.size w) [klT i l.length,iA 26 underlying26 (sz:=2) (by kernel_rfl) (g:=ga) (off:=offa) (n:=l.length) (cap:=cap) hil,ldA 47 hld,bO .neq 9 (xr (a:=sa) (b:=s) (q:=true) (by simp[has])),bO .add 3 (zw (x:=i) (y:=1) (z:=(i+1:Nat)) hadd)] (zj w) (fun _ h=>h) I fun β4 a4 w4 I hb4=>?_;obtain⟨u',Iu⟩:=I.scr (zc Tryz.f118) (zg 43 toK) (toV (.slice (some ⟨ga,offa,none⟩) l.length cap) s l.length (i+1)) [(0,rU 0),(1,rU T)] 2
   exact xc ⟨l.length-(i+1),by omega,i+1,β4,u',rfl,hil,by rw[hstep];exact hW,by rw[hstep];exact Iu⟩
  have has:=Classical.not_not.1 has;rw[if_pos has]at hstep;refine goT (T:=Below w.heap.size w) [klT i l.length,iA 26 underlying26 (sz:=2) (by kernel_rfl) (g:=ga) (off:=offa) (n:=l.length) (cap:=cap) hil,ldA 47 hld,bO .neq 9 (xr (a:=sa) (b:=s) (q:=false) (by simp[has])),lS underlying45 (ad:=ada) (n:=al.length) (cap:=capa) rfl] (zj w) (fun _ h=>h) I fun β4 a4 w4 I hb4=>?_
  let St2:Nat→Act→World→Prop:=fun k a w'=>∃(j:Nat) (β:Nat→Nat) (u:Nat→Value),k=al.length-j∧j≤al.length∧T+sumA (al.take j)<W ∧
   SI (Below w.heap.size w) (· < w.heap.size) [] β (cfC (yn Tryz.f118) (zl (zg 43 tiK) u 0 (tiV (.slice (some ⟨ga,offa,none⟩) l.length cap) s l.length i (.slice ada al.length capa) al.length j)) [(0,rU 0),(1,rU (T+sumA (al.take j)))] 2) a w'
  refine lpM (yn Tryz.f118) St2 al.length ?_ ?_
  ·obtain⟨u',Iu⟩:=I.scr (yn Tryz.f118) (zg 43 tiK) (tiV (.slice (some ⟨ga,offa,none⟩) l.length cap) s l.length i (.slice ada al.length capa) al.length 0) [(0,rU 0),(1,rU T)] 2;exact⟨0,β4,u',by omega,Nat.zero_le _,by rw[List.take_zero];exact hW,by rw[List.take_zero];exact Iu⟩
  rintro k2 a5 w5 ⟨j,β5,u5,rfl,hj,hW5,I⟩;obtain⟨V,hV⟩:∃ V,T+sumA (al.take j)=V:=⟨_,rfl⟩
  rw[hV]at I hW5;refine zv (tm:=zl (zg 43 tiK) u5 0 (tiV (.slice (some ⟨ga,offa,none⟩) l.length cap) s l.length i (.slice ada al.length capa) al.length j)) (rows:=[(0,rU 0),(1,rU V)]) (nx:=2) ?_;rcases Nat.lt_or_ge j al.length with hjl|hjl
  ·obtain⟨⟨de,am,kd,le,ri⟩,h2⟩:∃ t,al[j]? = some t:=⟨_,List.getElem?_eq_getElem hjl⟩
   obtain⟨gb,offb,cs2,rfl,hlt2,hcb,rfl,ham⟩:=hma j _ h2;have ham:am<W:=ham;have hst2:=sumA_take h2;simp only[]at hst2;have hld2:∀ w',Below w.heap.size w w'→(loadVar 133 ⟨gb,offb+j*8,none⟩).run prog w'=.ok (.agg (al8 (de,am,kd,le,ri)).toArray) w':=fun w' hb=>zb5 (hcb.keep (hb.block gb hlt2))
   rcases Nat.lt_or_ge (V+am) W with hov|hov
   ·have hA:∀ w',Calls prog 139 #[U V,U am] w' fun e w''=>e=.returned (.tuple #[U (V+am),.bool false])∧Below w'.heap.size w' w'':=fun w'=>by
     have:=add_any V am hW5 ham w'
     rwa [show addW V am=V+am from Nat.mod_eq_of_lt hov,show ovW V am=false from decide_eq_false (by omega)]at this
    refine goT (T:=Below w.heap.size w) [klT j al.length,iA 45 underlying45 (sz:=8) (by kernel_rfl) (g:=gb) (off:=offb) (n:=al.length) (cap:=capa) hjl,ldA 133 hld2,kC func139 hA,kaZ j 1 (j+1:Nat)] (zj w) (fun _ h=>h) I fun β6 a6 w6 I hb6=>?_;obtain⟨u',Iu⟩:=I.scr (yn Tryz.f118) (zg 43 tiK) (tiV (.slice (some ⟨ga,offa,none⟩) l.length cap) s l.length i (.slice (some ⟨gb,offb,none⟩) al.length capa) al.length (j+1)) [(0,rU 0),(1,rU (V+am))] 2;have e:T+sumA (al.take (j+1))=V+am:=by rw[hst2];omega
    exact xc ⟨al.length-(j+1),by omega,j+1,β6,u',rfl,hjl,by rw[e];exact hov,by rw[e];exact Iu⟩
   ·have hA:∀ w',Calls prog 139 #[U V,U am] w' fun e w''=>e=.returned (.tuple #[U (addW V am),.bool true])∧Below w'.heap.size w' w'':=fun w'=>by
     have:=add_any V am hW5 ham w'
     rwa [show ovW V am=true from decide_eq_true hov]at this
    refine goT (T:=Below w.heap.size w) [klT j al.length,iA 45 underlying45 (sz:=8) (by kernel_rfl) (g:=gb) (off:=offb) (n:=al.length) (cap:=capa) hjl,ldA 133 hld2,kC func139 hA,dO 57 [] bd_Uz] (zj w) (fun _ h=>h) I fun β6 a6 w6 I hb6=>?_;refine qc (thenR (qb (v:=.tuple #[U 0,.bool false]) I ⟨?_,I.hJ⟩));unfold totV;rw[if_neg];have q1:=totS_le (l:=l) (s:=s) (i+1);have q2:=sumA_le (l:=al) (j+1);omega
  ·obtain rfl:j=al.length:=by omega
   rw[List.take_length]at hV;refine goZ [bO .lss 3 (zf (x:=al.length) (y:=al.length) (b:=false) (by simp))] I fun β6 a6 w6 I hb6=>?_;refine xg 2 ?_;refine goZ [bO .add 3 (zw (x:=i) (y:=1) (z:=(i+1:Nat)) hadd)] (I.exit _) fun β7 a7 w7 I hb7=>?_;obtain⟨u',Iu⟩:=I.scr (zc Tryz.f118) (zg 43 toK) (toV (.slice (some ⟨ga,offa,none⟩) l.length cap) s l.length (i+1)) [(0,rU 0),(1,rU V)] 2;have e:totS (l.take (i+1)) s=V:=by rw[hstep];exact hV
   exact xc ⟨l.length-(i+1),by omega,i+1,β7,u',rfl,hil,by rw[e];exact hW5,by rw[e];exact Iu⟩
 ·obtain rfl:i=l.length:=by omega
  rw[List.take_length]at hT;refine goZ [bO .lss 3 (zf (x:=l.length) (y:=l.length) (b:=false) (by simp))] I fun β4 a4 w4 I hb4=>?_;refine xg 0 ?_;refine goZ [] (I.exit _) fun β5 a5 w5 I hb5=>?_;refine zh (v:=.tuple #[U T,.bool true]) I ⟨?_,I.hJ⟩;unfold totV;rw[hT,if_pos hW]
end Go.Proofs.YtdeompgdhaomgaaGreatDoor
