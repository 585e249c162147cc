/- Out of Tv. -/
import Derived.Test.YtdeompgdhaomgaaGreatDoorKtTq
namespace Go.Proofs.YtdeompgdhaomgaaGreatDoor
open Go.RowKit Go.Sort Go.Proofs.Tryz
set_option linter.unusedVariables false
set_option maxRecDepth 100000
set_option maxHeartbeats 4000000
section
variable {P:Program} {T:World→Prop} {fo:Nat→Nat→Option Nat} {io:Nat→Int→Option Nat} {ze:Nat→Option (Array Value)} {ops:Array Oper} {tm:Vs} {rows:Rows} {sp:Spt}
abbrev spM (ops:Array Oper) (m:Nat) (sp:Spt):Spt:=sp++(List.range (ops.size-m)).map fun i=>(m+i,none)
def tmM (ops:Array Oper) (m:Nat) (sp:Spt) (tm vals:Vs) (vs:Nat→Value):Vs:=(List.range tm.length).map fun t=>match wr ops t with
 | some j=>if m≤j then(tm[t]?).join else(match yi sp j with
  | some _=>some (Sum.inl (vs j))
  | none=>(vals[j]?).join)
 | none=>(tm[t]?).join
theorem ids_tmM{m:Nat}{vals:Vs}{vs:Nat→Value}{nx:Nat}(h:xo (tmM ops m sp tm vals fun _=>undef) nx=true):xo (tmM ops m sp tm vals vs) nx=true:=by
 unfold xo tmM at h ⊢;rw[List.all_map,List.all_eq_true]at h ⊢;intro t ht;have:=h t ht;simp only[Function.comp]at this ⊢;cases hw:wr ops t with
 | none=>rw[hw]at this;exact this
 | some j=>
  rw[hw]at this;simp only at this ⊢;by_cases hj:m≤j
  ·rw[if_pos hj]at this ⊢;exact this
  ·rw[if_neg hj]at this ⊢;cases hs:yi sp j with
   | none=>rw[hs]at this;exact this
   | some x=>rfl
end
section
variable {P:Program} {T:World→Prop} {fo:Nat→Nat→Option Nat} {io:Nat→Int→Option Nat} {ze:Nat→Option (Array Value)} {ops:Array Oper} {tm:Vs} {rows:Rows} {sp:Spt}
theorem drawC{J:World→Prop}{F:Nat→Prop}{ds:List Deferred}{β:Nat→Nat}{c:Cf}{a:Act}{w:World}{Q:Exit→Act→World→Prop}(Y:Ty P fo io ze)(R:yw J F)(hT:∀ w,J w→T w){ks:List Ki}{fs us:List (Fa P T)}{vals:Vs}{e:List (Value×Value)}(C:Array Bool→(Nat→Value)→World→Prop)(hC0:∀ w1,Below w.heap.size w w1→C (Array.replicate ops.size false) (fun _=>undef) w1)(hCk:∀ za vs w' w'' i v,yi sp i=none→C za vs w'→Below w'.heap.size w' w''→C (za.setIfInBounds i true) (fun j=>if j=i then v else vs j) w'')(hc:drQ c=some (ops,ks))(hg:goS P T fo io sp ops c.tm c.rows ops.toList 0 [] fs=some (vals,us,e))(he:∀ p∈e,p.1=p.2)(hb:qi ops=true)(hB:kn ops=true)(hgs:gsB ops sp=true)(hds:dstB ops c.tm.length=true)(hids:xo (tmS ops sp c.tm vals fun _=>undef) c.nx=true)(I:SI J F ds β c a w)(hsp:∀ i x o,yi sp i=some x→ops[i]? = some o→∀ za vs a' w',Frm ops vs a za a'→i∈Region.ready .any ops za→Below w.heap.size w w'→C za vs w'→(∀ x s,evS ops c.tm (vals.take i) i x=some s→a'.eval x=up β s) →
   wpG ops o P a' w' (fun a'' w''=>∃ v,a''=a'.put o.dst v∧(∀ u,x=some u→v=u)∧C (za.setIfInBounds i true) (fun j=>if j=i then v else vs j) w''∧Below w.heap.size w' w'') (QK P Q ks))(k:∀ za vs a' w',(∀ j,j<ops.size→za.getD j false=true)→C za vs w'→SI J F ds β { ops:=#[],rest:=[],ks:=ks,tm:=tmS ops sp c.tm vals vs,rows:=c.rows,nx:=c.nx,dn:=none } a' w'→At P Q { ops:=#[],rest:=[],ks:=ks,tm:=tmS ops sp c.tm vals vs,rows:=c.rows,nx:=c.nx,dn:=none } a' w'):At P Q c a w:=by
 obtain⟨hvl,_,hspec⟩:=zbz (k:=0) (v0:=[]) rfl hg he;have htm:a.tmps.size=c.tm.length:=by rw[I.fr];simp
 have dl:∀ t j,wr ops t=some j→t<a.tmps.size:=fun t j h=>by rw[htm];exact dstB_ok hds h
 have hsv:∀ j x,yi sp j=some x→j<ops.size→vals[j]? = some (x.map Sum.inl):=fun j x hx hj=>by
  have:=(hspec j ops[j] (by simp[hj])).1 x (by rw[Nat.zero_add];exact hx)
  rwa [Nat.zero_add]at this
 refine at_reg Y.hm hc ?_;refine vu hb hB (fun za vs w'=>DS ops sp β vals (fun _ _ _=>True) w za vs w'∧C za vs w') ?_ ?_ ?_
 ·intro w1 h1;have hf:∀ j,¬ (Array.replicate ops.size false).getD j false=true:=fun j h=>by
   rw[Array.getD_eq_getD_getElem?,Array.getElem?_replicate]at h;split at h<;>simp at h
  have hbl:Below w.heap.size w w1:=by
   rcases h1 with rfl|rfl
   ·exact Below.refl _ _
   ·exact⟨rfl,rfl,rfl,Nat.le_refl _,fun _ _=>rfl⟩
  exact⟨⟨hbl,fun j k _ h=>absurd h (hf k),fun j h=>absurd h (hf j),fun j x h=>absurd h (hf j)⟩,hC0 w1 hbl⟩
 ·rintro za vs a' w' i o hs ho hi hF ⟨D,hC⟩;have hun:=zai hi hs;have hio:i<ops.size:=(Array.getElem?_eq_some_iff.1 ho).1;have hev:∀ x s,evS ops c.tm (vals.take i) i x=some s→a'.eval x=up β s:=fun x s h=>evF_ok D hsv hF I.fr hs hi h
  have wt':∀ j k,ya ops k j=true→(za.setIfInBounds i true).getD k false=true→(za.setIfInBounds i true).getD j false=true:=fun j k hw hk=>by
   rcases zm hk with rfl|hk
   ·exact z6 (zk hw hi)
   ·exact z6 (D.wt j k hw hk)
  cases hsi:yi sp i with
  | some x=>
   refine yq (fun a'' w'' h=>?_) (hsp i x o hsi ho za vs a' w' hF hi D.bw hC hev);obtain⟨v,rfl,h1,h2,h3⟩:=h;refine⟨v,rfl,⟨D.bw.trans h3,wt',fun j hj hn=>?_,fun j y hj hy=>?_⟩,h2⟩
   ·have hji:j≠i:=fun e=>by rw[e,hsi]at hn;cases hn
    simp only[if_neg hji];exact D.rk j ((zm hj).resolve_left hji) hn
   ·by_cases hji:j=i
    ·subst hji;rw[hsi]at hy;cases hy;simp only[if_true];exact⟨trivial,h1⟩
    ·simp only[if_neg hji];obtain⟨a1,a2⟩:=D.sv j y ((zm hj).resolve_left hji) hy;exact⟨trivial,a2⟩
  | none=>
   obtain⟨f,s,e',hq,he',hvi⟩:=(hspec i o (by simpa using ho)).2 (by rw[Nat.zero_add];exact hsi);rw[Nat.zero_add]at hq hvi;have next:∀ v w2,v=upO β s→Below w'.heap.size w' w2→∃ v',a'.put o.dst v=a'.put o.dst v'∧(DS ops sp β vals (fun _ _ _=>True) w (za.setIfInBounds i true) (fun j=>if j=i then v' else vs j) w2∧C (za.setIfInBounds i true) (fun j=>if j=i then v' else vs j) w2):=by
    intro v w2 hv hb2;refine⟨v,rfl,⟨D.bw.trans (hb2.mono D.bw.size),wt',fun j hj hn=>?_,fun j y hj hy=>?_⟩,hCk za vs w' w2 i v hsi hC hb2⟩
    ·by_cases hji:j=i
     ·subst hji;simp only[if_true];rw[hvi,hv];rfl
     ·simp only[if_neg hji];exact D.rk j ((zm hj).resolve_left hji) hn
    ·have hji:j≠i:=fun e=>by rw[e,hsi]at hy;cases hy
     simp only[if_neg hji];obtain⟨a1,a2⟩:=D.sv j y ((zm hj).resolve_left hji) hy;exact⟨trivial,a2⟩
   have hgo:∀ j b,o.guard=some (j,b)→yi sp j=none:=fun j b hg=>by
    unfold gsB at hgs;have:=Array.all_eq_true.1 hgs i hio;rw[Array.getElem?_eq_some_iff]at ho;obtain⟨_,ho⟩:=ho;rw[ho,hg]at this;simpa using this
   unfold qop at hq;split at hq
   ·next hw=>
    cases hq;have hnw:=vh D hsv hF hB dl hi hgo hw;unfold wpG;rw[hnw];simp only[Bool.false_eq_true,if_false];exact next undef w' rfl (Below.refl _ _)
   ·cases hq
   ·next hw=>
    have hnw:=vh D hsv hF hB dl hi hgo hw;unfold wpG;rw[hnw];simp only[if_true];have hJ':J w':=R.loc w w' I.hJ (zi.of_below D.bw);have hevL:∀{xs:List Operand} {us:List Value},(xs.mapM fun x=>plain (evS ops c.tm (vals.take i) i x))=some us→xs.map a'.eval=us:=by
     intro xs
     induction xs with
     | nil=>intro us h;simp at h;subst h;rfl
     | cons x xs ih=>
      intro us h;rw[List.mapM_cons]at h;cases h1:plain (evS ops c.tm (vals.take i) i x)with
      | none=>rw[h1]at h;simp at h
      | some v=>
       cases h2:(xs.mapM fun x=>plain (evS ops c.tm (vals.take i) i x))with
       | none=>rw[h1,h2]at h;simp at h
       | some us'=>
        rw[h1,h2]at h;simp at h;subst h;rw[List.map_cons,ih h2,hev _ _ (zp h1)];rfl
    split at hq
    ·simp only[Option.map_eq_some_iff,Prod.mk.injEq]at hq;obtain⟨sv,hn,rfl,rfl⟩:=hq;exact zb3 Y hev (fun id r h=>(I.row _ (zy h)).below D.bw) hn fun w2 hb2=>next _ w2 rfl hb2
    ·next f=>
     split at hq
     ·next g xs ts hop=>
      split at hq
      ·next hfg=>
       subst hfg;simp only[Option.map_eq_some_iff,Prod.mk.injEq]at hq;obtain⟨us',hm2,rfl,rfl⟩:=hq;have h1:=hevL hm2;have h2:=he' _ (List.mem_singleton.2 rfl);simp only[Value.tuple.injEq]at h2;refine Oper.wp_mono ?_ (zae f.f xs ts hop (vs:=f.args) ?_ (f.hr xs ts) (f.hc w' (hT w' hJ')))
       ·rintro a2 w2 ⟨rfl,hb2⟩;exact next _ w2 rfl hb2
       ·rw[← h2,← h1];apply Array.ext';simp
      ·cases hq
     ·cases hq
    ·next f=>
     split at hq
     ·next hok=>
      simp only[Option.map_eq_some_iff,Prod.mk.injEq]at hq;obtain⟨us',hm2,rfl,rfl⟩:=hq;have h1:=hevL hm2;have h2:=he' _ (List.mem_singleton.2 rfl);simp only[Value.tuple.injEq]at h2;exact xb (f.h a' w' o (.inr (hT w' hJ')) hok (by rw[h1,h2])) (next _ w' rfl (Below.refl _ _))
     ·cases hq
 ·rintro za vs a' w' hd hF ⟨D,hC⟩;have hfr:a'.tmps=((tmS ops sp c.tm vals vs).map (upO β)).toArray:=by
   apply Array.ext_getElem?;intro t;by_cases ht:t<a.tmps.size
   ·have ht':t<c.tm.length:=by omega
    rw[hF.2.2 t ht];have e0:a.tmps[t]? = some (upO β (c.tm[t]?).join):=by
     rw[I.fr];simp[List.getElem?_eq_getElem ht']
    simp only[List.getElem?_toArray,tmS,List.getElem?_map,List.getElem?_range ht',Option.map_some];cases hw:wr ops t with
    | none=>exact e0
    | some j=>
     have hj:=(zb4 hw).2;simp only[];rw[if_pos (hd j hj)];cases hs:yi sp j with
     | none=>simp only[];rw[D.rk j (hd j hj) hs]
     | some x=>rfl
   ·rw[Array.getElem?_eq_none (by have:=hF.2.1;omega),Array.getElem?_eq_none (by simp[tmS];omega)]
  have:=(k za vs a' w' hd hC ⟨hfr,hF.1.trans I.df,R.loc w w' I.hJ (zi.of_below D.bw),fun p hp=>(I.row p hp).below D.bw,I.dis,I.lt,I.inj,ids_tmS hids⟩).out;exact this
end
section
variable {P:Program} {J:World→Prop} {F:Nat→Prop} {ds:List Deferred} {β:Nat→Nat} {c:Cf} {a:Act} {w:World} {Q:Exit→Act→World→Prop}
theorem dwC{T:World→Prop}(sp:Spt)(fs:List (Fa P T))(C:Array Bool→(Nat→Value)→World→Prop)(hC0:∀ w1,Below w.heap.size w w1→C (Array.replicate (z9 c).size false) (fun _=>undef) w1)(hCk:∀ za vs w' w'' i v,yi sp i=none→C za vs w'→Below w'.heap.size w' w''→C (za.setIfInBounds i true) (fun j=>if j=i then v else vs j) w'')(R:yw J F)(hT:∀ w,J w→T w)(I:SI J F ds β c a w)(hsp:∀ p∈sp,∀ o,(z9 c)[p.1]? = some o→∀ za vs a' w',Frm (z9 c) vs a za a'→p.1∈Region.ready .any (z9 c) za→Below w.heap.size w w'→C za vs w'→(∀ x s,evS (z9 c) c.tm ((valsD P sp fs c).take p.1) p.1 x=some s→a'.eval x=up β s) →
   wpG (z9 c) o P a' w' (fun a'' w''=>∃ v,a''=a'.put o.dst v∧(∀ u,p.2=some u→v=u)∧C (za.setIfInBounds p.1 true) (fun j=>if j=p.1 then v else vs j) w''∧Below w.heap.size w' w'') (QK P Q (ksD c)))(k:∀ za vs a' w',(∀ j,j<(z9 c).size→za.getD j false=true)→C za vs w'→SI J F ds β (dsC P sp fs c vs) a' w'→At P Q (dsC P sp fs c vs) a' w')(hm:P.follows .mixedOrders=true:=by kernel_rfl)(hs:(dsX P sp fs c).isSome=true:=by kernel_rfl)(he:(dsX P sp fs c).map (fun r=>r.2.map (·.1))=(dsX P sp fs c).map (fun r=>r.2.map (·.2)):=by kernel_rfl):At P Q c a w:=by
 cases hx:dsX P sp fs c with
 | none=>rw[hx]at hs;cases hs
 | some r=>
  unfold valsD at hsp;unfold dsC valsD at k;rw[hx]at he k hsp;unfold dsX at hx;unfold z9 ksD at hsp k;unfold z9 at hC0;split at hx
  ·next ops ks hc=>
   rw[hc]at hsp k hC0;split at hx
   ·next vals us e hg=>
    split at hx
    ·next hb=>
     cases hx;simp only[Option.map_some,Option.some.injEq,Option.getD_some]at he k hsp hC0;simp only[Bool.and_eq_true]at hb;exact drawC (ty_ok hm) R hT C hC0 hCk hc hg (zb2 he) hb.1.1.1.1 hb.1.1.1.2 hb.1.1.2 hb.1.2 hb.2 I (fun i x o hx ho=>hsp (i,x) (za1 hx) o ho) k
    ·cases hx
   ·cases hx
  ·cases hx
end
section
variable {P:Program} {J:World→Prop} {F:Nat→Prop} {ds:List Deferred} {β:Nat→Nat} {c:Cf} {a:Act} {w:World} {Q:Exit→Act→World→Prop}
def adC (c:Cf) (t:Nat) (r:Array Value):Cf:={ c with tm:=c.tm.set t (some (Sum.inr (c.nx,0))),rows:=(c.nx,r)::c.rows,nx:=c.nx+1 }
theorem adopt(t:Nat){g:Nat}{r:Array Value}(I:SI J F ds β c a w)(ht:(c.tm[t]?).join=some (Sum.inl (.pointer (some ⟨g,0,none⟩))))(hr:zb w g r)(hF:¬ F g)(hd:∀ p∈c.rows,β p.1≠g)(k:∀ β',Agree c.nx β β'→β' c.nx=g→SI J F ds β' (adC c t r) a w→At P Q (adC c t r) a w):At P Q c a w:=by
 have hbe:∀ i,i<c.nx→(fun i=>if i=c.nx then g else β i) i=β i:=fun i hi=>by simp only[if_neg (show ¬ i=c.nx by omega)]
 have hup:∀ s:Option SV,(∀ i o,s=some (Sum.inr (i,o))→i<c.nx)→upO (fun i=>if i=c.nx then g else β i) s=upO β s:=by
  intro s hs;rcases s with _|v|⟨i,o⟩
  ·rfl
  ·rfl
  ·simp only[upO,up,hbe i (hs i o rfl)]
 have:=k (fun i=>if i=c.nx then g else β i) (fun i hi=>hbe i hi) (by simp) ⟨?_,I.df,I.hJ,?_,?_,?_,?_,?_⟩
 ·exact⟨this.out⟩
 ·rw[I.fr]
  congr 1
  refine List.ext_getElem? fun i=>?_;simp only[adC,List.getElem?_map,List.getElem?_set];by_cases hit:t=i
  ·subst hit;cases hq:c.tm[t]? with
   | none=>rw[hq]at ht;cases ht
   | some s=>
    rw[hq]at ht;simp only[Option.join_some]at ht;subst ht;have hlt:t<c.tm.length:=(List.getElem?_eq_some_iff.1 hq).1;simp[hlt,upO,up]
  ·rw[if_neg hit];cases hq:c.tm[i]? with
   | none=>rfl
   | some s=>
    simp only[Option.map_some];rw[hup s fun i' o hs=>idsB_get I.ids (t:=i) (by rw[hq,hs];rfl)]
 ·intro p hp;rcases List.mem_cons.1 hp with rfl|hp
  ·simpa using hr
  ·have:=I.row p hp;simp only[if_neg (show ¬ p.1=c.nx by have:=I.lt p hp;omega)];exact this
 ·intro p hp;rcases List.mem_cons.1 hp with rfl|hp
  ·simpa using hF
  ·simp only[if_neg (show ¬ p.1=c.nx by have:=I.lt p hp;omega)];exact I.dis p hp
 ·intro p hp;rcases List.mem_cons.1 hp with rfl|hp
  ·exact Nat.lt_succ_self _
  ·exact Nat.lt_succ_of_lt (I.lt p hp)
 ·intro p hp q hq hne;rcases List.mem_cons.1 hp with rfl|hp
  ·rcases List.mem_cons.1 hq with rfl|hq
   ·exact absurd rfl hne
   ·have h1:=I.lt q hq;simp only[if_true,if_neg (show ¬ q.1=c.nx by omega)];exact fun e=>hd q hq e.symm
  ·have h1:=I.lt p hp;rcases List.mem_cons.1 hq with rfl|hq
   ·simp only[if_true,if_neg (show ¬ p.1=c.nx by omega)];exact hd p hp
   ·have h2:=I.lt q hq;simp only[if_neg (show ¬ p.1=c.nx by omega),if_neg (show ¬ q.1=c.nx by omega)];exact I.inj p hp q hq hne
 ·have h0:=I.ids;unfold xo at h0 ⊢;rw[List.all_eq_true]at h0 ⊢;intro x hx;rcases List.mem_or_eq_of_mem_set hx with hx|rfl
  ·have:=h0 x hx;rcases x with _|v|⟨i,o⟩
   ·rfl
   ·rfl
   ·simp only[decide_eq_true_eq]at this ⊢;exact Nat.lt_succ_of_lt this
  ·simp[adC]
end
end Go.Proofs.YtdeompgdhaomgaaGreatDoor
